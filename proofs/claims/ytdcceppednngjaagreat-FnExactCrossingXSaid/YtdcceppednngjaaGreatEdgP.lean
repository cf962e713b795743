/-
  Edges: plain: which are valid, what they span, where two cross and where one has a height, told of fractions; the program's one fraction and the reference's arithmetic give the same one.
-/
import Derived.Test.YtdcceppednngjaaGreatSG
import Derived.Test.YtdcceppednngjaaGreatFreQ
import Derived.Test.YtdcceppednngjaaGreatPI
namespace Go.Proofs.YtdcceppednngjaaGreat
open Go.RowKit
set_option linter.unusedVariables false
/-- an edge's ends are valid, and the first lies left of the second -/
def edgeB (a b c d : Int) : Bool := (vecB a b && vecB c d) && decide (a < c)
def spanB (a b c d : Int) (Z Y : RQ) : Bool := edgeB a b c d && (ratQ Z && (ratQ Y && (decide (cqR (intQ a) Z ≤ 0) && decide (0 ≤ cqR (intQ c) Y))))
def crsN (a b c d p q r s : Int) : Int := (q * r - p * s) * (c - a) - (b * c - a * d) * (r - p)
def crsD (a b c d p q r s : Int) : Int := (d - b) * (r - p) - (s - q) * (c - a)
def crsX (a b c d p q r s : Int) : RQ := ofQ (crsN a b c d p q r s) (crsD a b c d p q r s)
def crsB (a b c d p q r s : Int) : Bool := spanB a b c d (crsX a b c d p q r s) (crsX a b c d p q r s) && spanB p q r s (crsX a b c d p q r s) (crsX a b c d p q r s)
def crossQ (a b c d p q r s : Int) : RQ := if crsB a b c d p q r s then crsX a b c d p q r s else noR
def lvlB (a b c d y : Int) : Bool := crsB a b c d a y c y
def lvlQ (a b c d y : Int) : RQ := crossQ a b c d a y c y
theorem edge_iff {a b c d : Int} : edgeB a b c d = true ↔ ((-1000 ≤ a ∧ a ≤ 1000) ∧ (-1000 ≤ b ∧ b ≤ 1000)) ∧ ((-1000 ≤ c ∧ c ≤ 1000) ∧ (-1000 ≤ d ∧ d ≤ 1000)) ∧ a < c := by
  unfold edgeB vecB
  simp only [Bool.and_eq_true, decide_eq_true_eq, and_assoc]
theorem lowR_den0 (z : Int) : lowR z 0 = noR := by
  rcases lowR_cases z 0 with h | ⟨h, _⟩
  · exact h
  · exact absurd h (by decide)
theorem ofQ_eq (a m : Int) (ha : a.natAbs < 1000000000 ^ 60) (hm : m.natAbs < 1000000000 ^ 60) : ofQ a m = lowR (if m < 0 then -a else a) m.natAbs := by
  obtain ⟨b1, z1, _, _⟩ := capZ_back (z := a) ha
  obtain ⟨b2, _, _, n2⟩ := capZ_back (z := m) hm
  rw [ofQ, makeR, b1, b2, capZ_sign m hm, z1, n2]
  simp only [Bool.and_self, if_true]
  by_cases h : m < 0
  · rw [decide_eq_true h, if_pos rfl, if_pos h]
  · rw [decide_eq_false h, if_neg (by decide), if_neg h]
theorem ofQ_none (a : Int) (ha : a.natAbs < 1000000000 ^ 60) : ofQ a 0 = noR := by
  rw [ofQ_eq a 0 ha (by decide +kernel)]
  exact lowR_den0 _
theorem ofQ_V {a m : Int} {B : Nat} (h0 : m ≠ 0) (ha : a.natAbs ≤ B) (hm : m.natAbs ≤ B) (hB : B < 1000000000 ^ 24) : IsV (ofQ a m) ((a : Rat) / (m : Rat)) B := by
  have hC : (1000000000 : Nat) ^ 24 < 1000000000 ^ 60 := by decide +kernel
  rw [ofQ_eq a m (by omega) (by omega)]
  refine ⟨_, _, low_S (by omega) (by split <;> omega) hm hB, ?_⟩
  by_cases h : m < 0
  · have e1 : ((m.natAbs : Nat) : Rat) = -(m : Rat) := by
      have : ((m.natAbs : Nat) : Int) = -m := by omega
      exact_mod_cast congrArg (Int.cast (R := Rat)) this
    have m0 : (m : Rat) ≠ 0 := by exact_mod_cast h0
    rw [if_pos h, e1]; push_cast; grind
  · have e1 : ((m.natAbs : Nat) : Rat) = (m : Rat) := by
      have : ((m.natAbs : Nat) : Int) = m := by omega
      exact_mod_cast congrArg (Int.cast (R := Rat)) this
    rw [if_neg h, e1]
/-- the reference's height at x -/
def hgtQ (a b c d : Int) (X : RQ) : RQ := addQ (intQ b) (mulQ (subQ X (intQ a)) (ofQ (d - b) (c - a)))
theorem slope_V {a b c d : Int} (h : edgeB a b c d = true) : IsV (ofQ (d - b) (c - a)) (((d - b : Int) : Rat) / ((c - a : Int) : Rat)) 2000 := by
  have h' := edge_iff.1 h
  exact ofQ_V (by omega) (by omega) (by omega) (by decide +kernel)
theorem int_V {a : Int} (h : -1000 ≤ a ∧ a ≤ 1000) : IsV (intQ a) (a : Rat) 1000 := (intQ_V a (by omega)).mono (by omega)
theorem hgt_V {a b c d : Int} (h : edgeB a b c d = true) : IsV (hgtQ a b c d (intQ 0)) ((b : Rat) + (((0 : Int) : Rat) - (a : Rat)) * (((d - b : Int) : Rat) / ((c - a : Int) : Rat))) 8000000000000 := by
  have h' := edge_iff.1 h
  have s := ((int_V (a := 0) (by omega)).sub (int_V h'.1.1) (by decide +kernel)).mul (slope_V h) (by decide +kernel)
  exact ((int_V h'.1.2).add s (by decide +kernel)).mono (by decide +kernel)
theorem cq_rv {Z Y : RQ} (h : ratQ Z = true) (k : ratQ Y = true) : (cqR Z Y < 0 ↔ rv Z < rv Y) ∧ (cqR Z Y = 0 ↔ rv Z = rv Y) ∧ (0 < cqR Z Y ↔ rv Y < rv Z) := by
  have e : cqR Z Y = cmpW Z.1.1 Z.1.2 Z.2 Y.1.1 Y.1.2 Y.2 := by
    unfold cqR cmpR
    unfold ratQ at h k
    rw [h, k]; rfl
  rw [e]; exact cmpW_rv h k
theorem frac_cut {k x y : Rat} (hk : k ≠ 0) (hy : y ≠ 0) : x / y = (k * x) / (k * y) := by grind
theorem cross_rat {a b c d p q r s : Rat} (n1 : c - a ≠ 0) (n2 : r - p ≠ 0) (ne : (d - b) / (c - a) - (s - q) / (r - p) ≠ 0) :
    (q + (0 - p) * ((s - q) / (r - p)) - (b + (0 - a) * ((d - b) / (c - a)))) / ((d - b) / (c - a) - (s - q) / (r - p)) = ((q * r - p * s) * (c - a) - (b * c - a * d) * (r - p)) / ((d - b) * (r - p) - (s - q) * (c - a)) := by
  obtain ⟨u, hu⟩ : ∃ u, u = c - a := ⟨_, rfl⟩
  obtain ⟨v, hv⟩ : ∃ v, v = r - p := ⟨_, rfl⟩
  obtain ⟨m, hm⟩ : ∃ m, m = (d - b) / (c - a) := ⟨_, rfl⟩
  obtain ⟨n, hn⟩ : ∃ n, n = (s - q) / (r - p) := ⟨_, rfl⟩
  rw [← hm, ← hn] at ne ⊢
  rw [← hu] at n1 hm ⊢
  rw [← hv] at n2 hn ⊢
  have e1 : d - b = m * u := by rw [hm]; grind
  have e2 : s - q = n * v := by rw [hn]; grind
  have e3 : c = a + u := by rw [hu]; grind
  have e4 : r = p + v := by rw [hv]; grind
  have e5 : d = b + m * u := by rw [← e1]; grind
  have e6 : s = q + n * v := by rw [← e2]; grind
  clear hu hv hm hn e1 e2
  subst e3 e4 e5 e6
  rw [frac_cut (k := u * v) (by grind) ne]
  have f1 : u * v * (q + (0 - p) * n - (b + (0 - a) * m)) = (q * (p + v) - p * (q + n * v)) * u - (b * (a + u) - a * (b + m * u)) * v := by grind
  have f2 : u * v * (m - n) = (b + m * u - b) * v - (q + n * v - q) * u := by grind
  rw [f1, f2]
/-- the reference's point of two lines -/
def refX (a b c d p q r s : Int) : RQ := divQ (subQ (hgtQ p q r s (intQ 0)) (hgtQ a b c d (intQ 0))) (subQ (ofQ (d - b) (c - a)) (ofQ (s - q) (r - p)))
theorem crsN_le {a b c d p q r s : Int} (h : edgeB a b c d = true) (k : edgeB p q r s = true) : (crsN a b c d p q r s).natAbs ≤ 8000000000 ∧ (crsD a b c d p q r s).natAbs ≤ 8000000000 := by
  have h' := edge_iff.1 h
  have k' := edge_iff.1 k
  have m : ∀ {x y : Int} {B C : Nat}, x.natAbs ≤ B → y.natAbs ≤ C → (x * y).natAbs ≤ B * C := fun hx hy => ab_mul hx hy
  have o : ∀ {x y z t : Int}, x.natAbs ≤ 1000 → y.natAbs ≤ 1000 → z.natAbs ≤ 1000 → t.natAbs ≤ 1000 → (x * y - z * t).natAbs ≤ 2000000 := by
    intro x y z t hx hy hz ht
    have := m hx hy
    have := m hz ht
    omega
  unfold crsN crsD
  have e1 := m (o (x := q) (y := r) (z := p) (t := s) (by omega) (by omega) (by omega) (by omega)) (show (c - a).natAbs ≤ 2000 by omega)
  have e2 := m (o (x := b) (y := c) (z := a) (t := d) (by omega) (by omega) (by omega) (by omega)) (show (r - p).natAbs ≤ 2000 by omega)
  have e3 := m (show (d - b).natAbs ≤ 2000 by omega) (show (r - p).natAbs ≤ 2000 by omega)
  have e4 := m (show (s - q).natAbs ≤ 2000 by omega) (show (c - a).natAbs ≤ 2000 by omega)
  constructor <;> omega
theorem slopes_eq {a b c d p q r s : Int} (h : edgeB a b c d = true) (k : edgeB p q r s = true) : cqR (ofQ (d - b) (c - a)) (ofQ (s - q) (r - p)) = 0 ↔ crsD a b c d p q r s = 0 := by
  have h' := edge_iff.1 h
  have k' := edge_iff.1 k
  rw [(cq_rv (slope_V h).ok (slope_V k).ok).2.1, (slope_V h).rv, (slope_V k).rv]
  have n1 : ((c - a : Int) : Rat) ≠ 0 := by exact_mod_cast (show c - a ≠ 0 by omega)
  have n2 : ((r - p : Int) : Rat) ≠ 0 := by exact_mod_cast (show r - p ≠ 0 by omega)
  have e : ((crsD a b c d p q r s : Int) : Rat) = ((d - b : Int) : Rat) * ((r - p : Int) : Rat) - ((s - q : Int) : Rat) * ((c - a : Int) : Rat) := by
    unfold crsD; push_cast; rfl
  have z : crsD a b c d p q r s = 0 ↔ ((crsD a b c d p q r s : Int) : Rat) = 0 := by
    constructor
    · intro x; rw [x]; rfl
    · intro x; exact_mod_cast x
  rw [z, e]
  generalize ((d - b : Int) : Rat) = u1 at *
  generalize ((c - a : Int) : Rat) = u2 at *
  generalize ((s - q : Int) : Rat) = u3 at *
  generalize ((r - p : Int) : Rat) = u4 at *
  constructor <;> intro x <;> grind
theorem crsX_V {a b c d p q r s : Int} (h : edgeB a b c d = true) (k : edgeB p q r s = true) (h0 : crsD a b c d p q r s ≠ 0) : IsV (crsX a b c d p q r s) (((crsN a b c d p q r s : Int) : Rat) / ((crsD a b c d p q r s : Int) : Rat)) 8000000000 :=
  ofQ_V h0 (crsN_le h k).1 (crsN_le h k).2 (by decide +kernel)
theorem crsX_no {a b c d p q r s : Int} (h : edgeB a b c d = true) (k : edgeB p q r s = true) (h0 : crsD a b c d p q r s = 0) : crsX a b c d p q r s = noR := by
  unfold crsX
  rw [h0]
  refine ofQ_none _ (Nat.lt_of_le_of_lt (crsN_le h k).1 (by decide +kernel))
theorem refX_eq {a b c d p q r s : Int} (h : edgeB a b c d = true) (k : edgeB p q r s = true) (h0 : crsD a b c d p q r s ≠ 0) : refX a b c d p q r s = crsX a b c d p q r s := by
  have h' := edge_iff.1 h
  have k' := edge_iff.1 k
  have n1 : ((c - a : Int) : Rat) ≠ 0 := by exact_mod_cast (show c - a ≠ 0 by omega)
  have n2 : ((r - p : Int) : Rat) ≠ 0 := by exact_mod_cast (show r - p ≠ 0 by omega)
  have hd : ((crsD a b c d p q r s : Int) : Rat) ≠ 0 := by exact_mod_cast h0
  have e : ((crsD a b c d p q r s : Int) : Rat) = ((d - b : Int) : Rat) * ((r - p : Int) : Rat) - ((s - q : Int) : Rat) * ((c - a : Int) : Rat) := by
    unfold crsD; push_cast; rfl
  have en : ((crsN a b c d p q r s : Int) : Rat) = ((q : Rat) * (r : Rat) - (p : Rat) * (s : Rat)) * ((c : Rat) - (a : Rat)) - ((b : Rat) * (c : Rat) - (a : Rat) * (d : Rat)) * ((r : Rat) - (p : Rat)) := by
    unfold crsN; push_cast; rfl
  have S := (slope_V h).sub (slope_V k) (by decide +kernel)
  have H := (hgt_V k).sub (hgt_V h) (by decide +kernel)
  have ne : ((d - b : Int) : Rat) / ((c - a : Int) : Rat) - ((s - q : Int) : Rat) / ((r - p : Int) : Rat) ≠ 0 := by
    intro x
    apply hd
    rw [e]
    generalize ((d - b : Int) : Rat) = u1 at *
    generalize ((c - a : Int) : Rat) = u2 at *
    generalize ((s - q : Int) : Rat) = u3 at *
    generalize ((r - p : Int) : Rat) = u4 at *
    grind
  have R := H.div S ne (by decide +kernel)
  have X := crsX_V h k h0
  refine rv_inj R.ok X.ok ?_
  rw [show rv (refX a b c d p q r s) = _ from R.rv, X.rv]
  clear H S R X h' k' h0
  rw [e] at hd
  rw [e, en]
  push_cast at *
  clear e en
  generalize (a : Rat) = a at *
  generalize (b : Rat) = b at *
  generalize (c : Rat) = c at *
  generalize (d : Rat) = d at *
  generalize (p : Rat) = p at *
  generalize (q : Rat) = q at *
  generalize (r : Rat) = r at *
  generalize (s : Rat) = s at *
  exact cross_rat n1 n2 ne
theorem span_no (a b c d : Int) : spanB a b c d noR noR = false := by
  unfold spanB; rw [noR_bad]; simp
theorem span_bad {a b c d : Int} (h : edgeB a b c d = false) (Z Y : RQ) : spanB a b c d Z Y = false := by
  unfold spanB; rw [h]; rfl
theorem crs_bad {a b c d p q r s : Int} (h : edgeB a b c d = false ∨ edgeB p q r s = false) : crsB a b c d p q r s = false := by
  unfold crsB
  rcases h with h | h
  · rw [span_bad h]; rfl
  · rw [span_bad h, Bool.and_false]
theorem crs_par {a b c d p q r s : Int} (h : edgeB a b c d = true) (k : edgeB p q r s = true) (h0 : crsD a b c d p q r s = 0) : crsB a b c d p q r s = false := by
  unfold crsB
  rw [crsX_no h k h0, span_no]; rfl
/-! the height y -/
theorem lvl_edge {a b c d y : Int} (h : edgeB a b c d = true) : edgeB a y c y = decide (-1000 ≤ y ∧ y ≤ 1000) := by
  have h' := edge_iff.1 h
  by_cases hy : -1000 ≤ y ∧ y ≤ 1000
  · rw [decide_eq_true hy, edge_iff]; omega
  · rw [decide_eq_false hy]
    cases hh : edgeB a y c y with
    | false => rfl
    | true => exact absurd (edge_iff.1 hh).1.2 hy
theorem lvl_D {a b c d y : Int} (h : edgeB a b c d = true) : crsD a b c d a y c y = 0 ↔ b = d := by
  have h' := edge_iff.1 h
  unfold crsD
  rw [show y - y = 0 by omega, Int.zero_mul, Int.sub_zero, Int.mul_eq_zero]
  omega
def rlvX (a b c d y : Int) : RQ := addQ (intQ a) (ofQ ((y - b) * (c - a)) (d - b))
theorem rlv_eq {a b c d y : Int} (h : edgeB a b c d = true) (hy : -1000 ≤ y ∧ y ≤ 1000) (h0 : b ≠ d) : rlvX a b c d y = crsX a b c d a y c y := by
  have h' := edge_iff.1 h
  have k : edgeB a y c y = true := by rw [lvl_edge h]; exact decide_eq_true hy
  have hD : crsD a b c d a y c y ≠ 0 := fun x => h0 ((lvl_D h).1 x)
  have X := crsX_V h k hD
  have O : IsV (ofQ ((y - b) * (c - a)) (d - b)) ((((y - b) * (c - a) : Int) : Rat) / ((d - b : Int) : Rat)) 4000000 :=
    ofQ_V (by omega) (ab_mul (B := 2000) (C := 2000) (by omega) (by omega)) (by omega) (by decide +kernel)
  have R := (int_V h'.1.1).add O (by decide +kernel)
  refine rv_inj R.ok X.ok ?_
  rw [show rv (rlvX a b c d y) = _ from R.rv, X.rv]
  have n1 : ((c - a : Int) : Rat) ≠ 0 := by exact_mod_cast (show c - a ≠ 0 by omega)
  have n2 : ((d - b : Int) : Rat) ≠ 0 := by exact_mod_cast (show d - b ≠ 0 by omega)
  unfold crsN crsD
  push_cast at *
  generalize (a : Rat) = a at *
  generalize (b : Rat) = b at *
  generalize (c : Rat) = c at *
  generalize (d : Rat) = d at *
  generalize (y : Rat) = y at *
  clear R O X hD k h' h h0 hy
  grind
theorem lvl_span {a b c d y : Int} (h : edgeB a b c d = true) (hy : -1000 ≤ y ∧ y ≤ 1000) (Z : RQ) : (spanB a b c d Z Z && spanB a y c y Z Z) = spanB a b c d Z Z := by
  have k : edgeB a y c y = true := by rw [lvl_edge h]; exact decide_eq_true hy
  unfold spanB
  rw [h, k, Bool.and_self]
end Go.Proofs.YtdcceppednngjaaGreat
