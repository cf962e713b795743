/-
  The texts SegG, SegP, SegV, put together; each has its own heading below. No condition of ours.
-/
import Derived.IntWalk
import Derived.Test.YtdcceppednngjabPT
import Derived.Test.YtdcceppednngjabPtN0
/-
  The plane over fractions: segments, convex polygons, where a segment leaves one; squares of distances.
-/

namespace Go.Proofs.Ytdcceppednngjab
set_option linter.unusedVariables false

abbrev RP := Rat × Rat
def crsQ (a b c : RP) : Rat := (b.1 - a.1) * (c.2 - a.2) - (b.2 - a.2) * (c.1 - a.1)
/-- the point at t of the segment from a to b -/
def atQ (a b : RP) (t : Rat) : RP := (a.1 + t * (b.1 - a.1), a.2 + t * (b.2 - a.2))
def OnQ (a b x : RP) : Prop := ∃ t : Rat, 0 ≤ t ∧ t ≤ 1 ∧ x = atQ a b t
theorem OnQ.mk {a b x : RP} {t : Rat} (h0 : 0 ≤ t) (h1 : t ≤ 1) (hx : x.1 = a.1 + t * (b.1 - a.1)) (hy : x.2 = a.2 + t * (b.2 - a.2)) : OnQ a b x := ⟨t, h0, h1, Prod.ext hx hy⟩
theorem qmul_nn {a b : Rat} (h : 0 ≤ a) (k : 0 ≤ b) : 0 ≤ a * b := Rat.mul_nonneg h k
theorem OnQ.left (a b : RP) : OnQ a b a := OnQ.mk (t := 0) (by grind) (by grind) (by grind) (by grind)
theorem OnQ.right (a b : RP) : OnQ a b b := OnQ.mk (t := 1) (by grind) (by grind) (by grind) (by grind)
theorem OnQ.symm {a b x : RP} (h : OnQ a b x) : OnQ b a x := by
  obtain ⟨t, h0, h1, rfl⟩ := h
  exact OnQ.mk (t := 1 - t) (by grind) (by grind) (by simp only [atQ]; grind) (by simp only [atQ]; grind)
/-! ### convex polygons: n corners f 0 .. f (n - 1), counterclockwise -/
def nxQ (n i : Nat) : Nat := (i + 1) % n
def ConvQ (n : Nat) (f : Nat → RP) : Prop := 3 ≤ n ∧ ∀ i j, i < n → j < n → j ≠ i → j ≠ nxQ n i → 0 < crsQ (f i) (f (nxQ n i)) (f j)
def InsQ (n : Nat) (f : Nat → RP) (x : RP) : Prop := ∀ i, i < n → 0 ≤ crsQ (f i) (f (nxQ n i)) x
theorem crsQ_at (a b p q : RP) (t : Rat) : crsQ a b (atQ p q t) = (1 - t) * crsQ a b p + t * crsQ a b q := by simp only [crsQ, atQ]; grind
theorem crsQ_l (a b : RP) : crsQ a b a = 0 := by unfold crsQ; grind
theorem crsQ_r (a b : RP) : crsQ a b b = 0 := by unfold crsQ; grind
theorem nxQ_lt {n i : Nat} (h : i < n) : nxQ n i < n := Nat.mod_lt _ (by omega)
theorem nxQ_of {n i : Nat} (h : i < n) : (nxQ n i = i + 1 ∧ i + 1 < n) ∨ (nxQ n i = 0 ∧ i + 1 = n) := by
  unfold nxQ
  by_cases hh : i + 1 < n
  · exact .inl ⟨Nat.mod_eq_of_lt hh, hh⟩
  · have e : i + 1 = n := by omega
    exact .inr ⟨by rw [e]; exact Nat.mod_self n, e⟩
theorem ConvQ.on {n : Nat} {f : Nat → RP} (h : ConvQ n f) {i : Nat} (hi : i < n) {x : RP} (hx : OnQ (f i) (f (nxQ n i)) x) : InsQ n f x := by
  obtain ⟨t, t0, t1, rfl⟩ := hx
  intro j hj
  rw [crsQ_at]
  have hc : ∀ m, m < n → 0 ≤ crsQ (f j) (f (nxQ n j)) (f m) := by
    intro m hm
    by_cases e1 : m = j
    · rw [e1, crsQ_l]; exact Rat.le_refl
    · by_cases e2 : m = nxQ n j
      · rw [e2, crsQ_r]; exact Rat.le_refl
      · exact Rat.le_of_lt (h.2 j m hj hm e1 e2)
  have m1 := qmul_nn (show 0 ≤ 1 - t by grind) (hc i hi)
  have m2 := qmul_nn t0 (hc _ (nxQ_lt hi))
  grind
theorem InsQ.on {n : Nat} {f : Nat → RP} {p q x : RP} (hp : InsQ n f p) (hq : InsQ n f q) (hx : OnQ p q x) : InsQ n f x := by
  obtain ⟨t, t0, t1, rfl⟩ := hx
  intro j hj
  rw [crsQ_at]
  have m1 := qmul_nn (show 0 ≤ 1 - t by grind) (hp j hj)
  have m2 := qmul_nn t0 (hq j hj)
  grind
/-! ### distances -/
theorem ConvQ.ne {n : Nat} {f : Nat → RP} (h : ConvQ n f) {i : Nat} (hi : i < n) : f i ≠ f (nxQ n i) := by
  intro e
  have n1 := nxQ_of hi
  have n2 := nxQ_of (nxQ_lt hi)
  have := h.2 i (nxQ n (nxQ n i)) hi (nxQ_lt (nxQ_lt hi)) (by have := h.1; omega) (by have := h.1; omega)
  rw [← e] at this
  unfold crsQ at this
  grind
end Go.Proofs.Ytdcceppednngjab

/-
  Segments: what the functions on fractions answer (inner product, square of the distance from a segment); the contracts on whole fractions that PtQ lacks.
-/


namespace Go.Proofs.Ytdcceppednngjab
open Go.RowKit
set_option linter.unusedVariables false
def maxQ (Z Y : RQ) : RQ := maxR Z.1.1 Z.1.2 Z.2 Y.1.1 Y.1.2 Y.2
/-- a fraction of one's own whose lists need not lie apart -/
def ROwn (w : World) (lo hi : Nat) (E : TypeId) (v0 v1 v2 : Value) (Z : RQ) : Prop := v0 = .bool Z.1.1 ∧ Own w lo hi E v1 Z.1.2.length (iv Z.1.2) ∧ Own w lo hi E v2 Z.2.length (iv Z.2)
def RRes (TI : TypeId) (w w' : World) (e : Ending) (Z : RQ) : Prop :=
  ∃ v0 v1 v2, e = .returned (.agg #[v0, v1, v2]) ∧ ROwn w' w.heap.size w'.heap.size TI v0 v1 v2 Z ∧ Below w.heap.size w w'
section
variable {w w' : World} {B lo hi lo' hi' g : Nat} {E : TypeId} {v0 v1 v2 : Value} {Z : RQ}
theorem ROwn.below (h : ROwn w lo hi E v0 v1 v2 Z) (hb : Below B w w') (hh : hi ≤ B) : ROwn w' lo hi E v0 v1 v2 Z := ⟨h.1, h.2.1.below hb hh, h.2.2.below hb hh⟩
theorem ROwn.aside (h : ROwn w lo hi E v0 v1 v2 Z) (ha : Aside lo' hi' w w') (hd : hi ≤ lo' ∨ hi' ≤ lo) : ROwn w' lo hi E v0 v1 v2 Z := ⟨h.1, h.2.1.aside ha hd, h.2.2.aside ha hd⟩
theorem ROwn.setv (h : ROwn w lo hi E v0 v1 v2 Z) (hg : g < lo ∨ hi ≤ g) (j : Nat) (u : Value) : ROwn (w.setCell ⟨g, j, none⟩ u) lo hi E v0 v1 v2 Z := ⟨h.1, h.2.1.setv hg j u, h.2.2.setv hg j u⟩
theorem ROwn.wider (h : ROwn w lo hi E v0 v1 v2 Z) (hl : lo' ≤ lo) (hh : hi ≤ hi') : ROwn w lo' hi' E v0 v1 v2 Z := ⟨h.1, h.2.1.wider hl hh, h.2.2.wider hl hh⟩
theorem ROwn.in_ (h : ROwn w lo hi E v0 v1 v2 Z) (f : QFit Z) (hh : hi ≤ B) : QIn w B v0 v1 v2 Z := by
  obtain ⟨e0, o1, o2⟩ := h
  obtain ⟨A, x, rfl⟩ := o1.form
  obtain ⟨D, y, rfl⟩ := o2.form
  exact ⟨A, _, x, D, _, y, e0, rfl, rfl, ⟨rfl, o1.rdB hh, f.1, f.2.2.1⟩, ⟨rfl, o2.rdB hh, f.2.1, f.2.2.2⟩, o1.cap, o2.cap⟩
theorem ROwn.cut (h : ROwn w lo hi E v0 v1 v2 Z) : Q3 v0 v1 v2 := by
  obtain ⟨e0, o1, o2⟩ := h
  obtain ⟨A, x, rfl⟩ := o1.form
  obtain ⟨D, y, rfl⟩ := o2.form
  exact ⟨_, A, _, x, D, _, y, e0, rfl, rfl⟩
theorem PIn.setv {w : World} {g l1 h1 l2 h2 B : Nat} {E : TypeId} {v0 v1 v2 v3 v4 v5 : Value} {P : PQ} (o1 : QOwn w l1 h1 E v0 v1 v2 P.1) (o2 : QOwn w l2 h2 E v3 v4 v5 P.2) (f : PFit P) (d1 : g < l1 ∨ h1 ≤ g) (d2 : g < l2 ∨ h2 ≤ g) (b1 : h1 ≤ B) (b2 : h2 ≤ B) (x0 x1 x2 x3 x4 x5 : Value) :
    PIn ((((((w.setCell ⟨g, 0, none⟩ x0).setCell ⟨g, 1, none⟩ x1).setCell ⟨g, 2, none⟩ x2).setCell ⟨g, 3, none⟩ x3).setCell ⟨g, 4, none⟩ x4).setCell ⟨g, 5, none⟩ x5) B v0 v1 v2 v3 v4 v5 P :=
  ⟨((((((o1.setv d1 0 _).setv d1 1 _).setv d1 2 _).setv d1 3 _).setv d1 4 _).setv d1 5 _).in_ f.1 b1, ((((((o2.setv d2 0 _).setv d2 1 _).setv d2 2 _).setv d2 3 _).setv d2 4 _).setv d2 5 _).in_ f.2 b2⟩
theorem QOwn.r (h : QOwn w lo hi E v0 v1 v2 Z) : ROwn w lo hi E v0 v1 v2 Z := by
  obtain ⟨e0, l1, h1, l2, h2, o1, o2, a, b, c, d, _⟩ := h
  exact ⟨e0, o1.wider a c, o2.wider b d⟩
end
theorem RRes.of {TI : TypeId} {w w' : World} {e : Ending} {Z : RQ} (h : RatRef TI w w' e Z) : RRes TI w w' e Z := by
  obtain ⟨v, d, rfl, ⟨o1, o2⟩, hb⟩ := h
  exact ⟨_, v, d, rfl, ⟨rfl, o1, o2⟩, hb⟩
end Go.Proofs.Ytdcceppednngjab

/-
  Fractions and the rational numbers that they are: what each operation on whole fractions makes of the values; what is small stays valid.
-/



namespace Go.Proofs.Ytdcceppednngjab
open Go.RowKit
set_option linter.unusedVariables false
/-- the number that a fraction is -/
def rv (Z : RQ) : Rat := (zv Z.1.1 Z.1.2 : Rat) / (natV Z.2 : Rat)
theorem natQ_pos {n : Nat} (h : 0 < n) : (0 : Rat) < (n : Rat) := by exact_mod_cast h
theorem IsR.rv {Z : RQ} {z : Int} {d : Nat} (h : IsR Z z d) : rv Z = (z : Rat) / (d : Rat) := by
  have h1 := natQ_pos h.pos
  have h2 := natQ_pos h.dpos
  obtain ⟨_, _, g, hg, hz, hd⟩ := h
  have e1 : (zv Z.1.1 Z.1.2 : Rat) * (g : Rat) = (z : Rat) := by exact_mod_cast congrArg (Int.cast (R := Rat)) hz
  have e2 : (natV Z.2 : Rat) * (g : Rat) = (d : Rat) := by exact_mod_cast congrArg (Nat.cast (R := Rat)) hd
  have hg' := natQ_pos hg
  unfold Go.Proofs.Ytdcceppednngjab.rv
  rw [← e1, ← e2]
  grind
theorem lowR_cases (z : Int) (d : Nat) : lowR z d = noR ∨ (0 < d ∧ IsR (lowR z d) z d) := by
  by_cases h : d ≠ 0 ∧ (limbs (z.natAbs / Nat.gcd z.natAbs d)).length ≤ 24 ∧ (limbs (d / Nat.gcd z.natAbs d)).length ≤ 24
  · right
    obtain ⟨h0, h1, h2⟩ := h
    have hd : 0 < d := by omega
    have hg : 0 < Nat.gcd z.natAbs d := Nat.gcd_pos_of_pos_right _ hd
    have l1 := limbs_len.1 h1
    have l2 := limbs_len.1 h2
    obtain ⟨a, ha⟩ := Nat.gcd_dvd_left z.natAbs d
    obtain ⟨b, hb⟩ := Nat.gcd_dvd_right z.natAbs d
    have hd0 : 0 < d / Nat.gcd z.natAbs d := Nat.div_pos (Nat.le_of_dvd hd (Nat.gcd_dvd_right _ _)) hg
    have m1 := Nat.div_mul_cancel (Nat.gcd_dvd_left z.natAbs d)
    have m2 := Nat.div_mul_cancel (Nat.gcd_dvd_right z.natAbs d)
    generalize hG : Nat.gcd z.natAbs d = G at *
    generalize z.natAbs / G = p at *
    generalize d / G = q at *
    obtain ⟨y, hy, hyz⟩ : ∃ y : Int, y.natAbs = p ∧ y * (G : Int) = z := by
      by_cases hz : z < 0
      · exact ⟨-(p : Int), by omega, by rw [Int.neg_mul, ← Int.natCast_mul, m1]; omega⟩
      · exact ⟨(p : Int), by omega, by rw [← Int.natCast_mul, m1]; omega⟩
    have hi : IsR (lowR y q) y q := isR hd0 (by omega) (by omega)
    have e : lowR z d = lowR y q := lowR_congr hd hd0 (by rw [← hyz, ← m2, Int.natCast_mul, Int.mul_assoc, Int.mul_comm (G : Int)])
    refine ⟨hd, e ▸ ?_⟩
    obtain ⟨k1, k2, g, k3, k4, k5⟩ := hi
    exact ⟨e.symm, k2, g * G, Nat.mul_pos k3 hg, by rw [Int.natCast_mul, ← Int.mul_assoc, k4, hyz], by rw [← Nat.mul_assoc, k5, m2]⟩
  · left
    rw [lowR, if_neg h]
theorem noR_bad : ratQ noR = false := by decide
/-- a valid fraction is the reduced one of its own parts -/
theorem valid_is {Z : RQ} (h : ratQ Z = true) : IsR Z (zv Z.1.1 Z.1.2) (natV Z.2) := by
  have hx := ratB_big h
  have hd := ratB_den h
  have h0 := ratB_pos h
  have hn := bigB_nat hx
  obtain ⟨s1, s2⟩ := ratB_short h
  have hp := natV_pos hd h0
  have hg : gcdL Z.1.2 Z.2 = [1] := by
    have h2 := h
    unfold ratQ ratB at h2
    simp only [Bool.and_eq_true, decide_eq_true_eq] at h2
    exact h2.2
  have hc : Nat.gcd (zv Z.1.1 Z.1.2).natAbs (natV Z.2) = 1 := by
    rw [zv_abs hn]
    have e : gcdL Z.1.2 Z.2 = limbs (Nat.gcd (natV Z.1.2) (natV Z.2)) := by rw [gcdL, hn, hd]; rfl
    rw [e] at hg
    exact one_iff.1 hg
  refine ⟨?_, h, 1, by decide, by simp, by simp⟩
  rw [lowR, hc, Nat.div_one, Nat.div_one, zv_abs hn, limbs_natV hn, limbs_natV hd, zv_lt hx, if_pos ⟨by omega, s1, s2⟩]
theorem rv_inj {Z Y : RQ} (h : ratQ Z = true) (k : ratQ Y = true) (e : rv Z = rv Y) : Z = Y := by
  have h1 := valid_is h
  have k1 := valid_is k
  have p1 := natQ_pos h1.pos
  have p2 := natQ_pos k1.pos
  unfold rv at e
  have e2 : (zv Z.1.1 Z.1.2 : Rat) * (natV Y.2 : Rat) = (zv Y.1.1 Y.1.2 : Rat) * (natV Z.2 : Rat) := by grind
  exact isR_eq h1 k1 (by exact_mod_cast e2)
section
variable {Z Y : RQ}
theorem cmpV_rat {a b : Int} {x y : Rat} (h1 : a < b ↔ x < y) (h2 : a = b ↔ x = y) : (cmpV a b < 0 ↔ x < y) ∧ (cmpV a b = 0 ↔ x = y) ∧ (0 < cmpV a b ↔ y < x) := by
  unfold cmpV
  rcases Int.lt_trichotomy a b with h | h | h
  · rw [if_pos h]
    have := h1.1 h
    refine ⟨by simp; exact this, by simp; grind, by simp; grind⟩
  · have := h2.1 h
    rw [if_neg (by omega), if_neg (by omega)]
    refine ⟨by simp; grind, by simp; exact this, by simp; grind⟩
  · have n1 : ¬ x < y := fun k => by have := h1.2 k; omega
    have n2 : ¬ x = y := fun k => by have := h2.2 k; omega
    rw [if_neg (by omega), if_pos h]
    refine ⟨by simp; grind, by simp; exact n2, by simp; grind⟩
theorem cmpW_rv (h : ratQ Z = true) (k : ratQ Y = true) : (cmpW Z.1.1 Z.1.2 Z.2 Y.1.1 Y.1.2 Y.2 < 0 ↔ rv Z < rv Y) ∧ (cmpW Z.1.1 Z.1.2 Z.2 Y.1.1 Y.1.2 Y.2 = 0 ↔ rv Z = rv Y) ∧ (0 < cmpW Z.1.1 Z.1.2 Z.2 Y.1.1 Y.1.2 Y.2 ↔ rv Y < rv Z) := by
  have p1 := natQ_pos (valid_is h).pos
  have p2 := natQ_pos (valid_is k).pos
  rw [cmpW_is (valid_is h) (valid_is k)]
  have e1 : rv Z * (natV Z.2 : Rat) = (zv Z.1.1 Z.1.2 : Rat) := by unfold rv; grind
  have e2 : rv Y * (natV Y.2 : Rat) = (zv Y.1.1 Y.1.2 : Rat) := by unfold rv; grind
  have c : ∀ a b : Int, (a < b ↔ (a : Rat) < (b : Rat)) ∧ (a = b ↔ (a : Rat) = (b : Rat)) := fun a b => ⟨by exact_mod_cast Iff.rfl, by exact_mod_cast Iff.rfl⟩
  have m : (0 : Rat) < (natV Z.2 : Rat) * (natV Y.2 : Rat) := Rat.mul_pos p1 p2
  refine cmpV_rat ?_ ?_
  · rw [(c _ _).1]; push_cast
    rw [← e1, ← e2]
    constructor
    · intro hl
      rcases (show rv Z < rv Y ∨ rv Y ≤ rv Z by grind) with q | q
      · exact q
      · have := qmul_nn (show 0 ≤ rv Z - rv Y by grind) (Rat.le_of_lt m); grind
    · intro hl
      have := Rat.mul_pos (show 0 < rv Y - rv Z by grind) m; grind
  · rw [(c _ _).2]; push_cast
    rw [← e1, ← e2]
    constructor
    · intro hl
      rcases (show rv Z < rv Y ∨ rv Y < rv Z ∨ rv Z = rv Y by grind) with q | q | q
      · have := Rat.mul_pos (show 0 < rv Y - rv Z by grind) m; grind
      · have := Rat.mul_pos (show 0 < rv Z - rv Y by grind) m; grind
      · exact q
    · intro hl; rw [hl]; grind
theorem maxQ_val (h : ratQ Z = true) (k : ratQ Y = true) : maxQ Z Y = if rv Y ≤ rv Z then Z else Y := by
  have hc := cmpW_rv h k
  unfold maxQ maxR
  rw [show (ratB Z.1.1 Z.1.2 Z.2 && ratB Y.1.1 Y.1.2 Y.2) = true by unfold ratQ at h k; rw [h, k]; rfl, if_pos rfl]
  by_cases hl : rv Y ≤ rv Z
  · rw [if_pos hl, if_pos (by rcases Int.lt_or_le (cmpW Z.1.1 Z.1.2 Z.2 Y.1.1 Y.1.2 Y.2) 0 with q | q; (exact absurd (hc.1.1 q) (by grind)); exact q)]
  · rw [if_neg hl, if_neg (by have := hc.1.2 (by grind); omega)]
end
/-! ### small fractions: they stay valid -/
/-- the number x as a fraction with parts of at most B -/
def IsV (Z : RQ) (x : Rat) (B : Nat) : Prop := ∃ (z : Int) (d : Nat), IsS Z z d B ∧ x = (z : Rat) / (d : Rat)
section
variable {Z Y : RQ} {x y : Rat} {B C : Nat}
theorem IsV.of {z : Int} {d : Nat} (h : IsS Z z d B) : IsV Z ((z : Rat) / (d : Rat)) B := ⟨z, d, h, rfl⟩
theorem IsV.ok (h : IsV Z x B) : ratQ Z = true := by obtain ⟨z, d, h, _⟩ := h; exact h.valid
theorem IsV.rv (h : IsV Z x B) : rv Z = x := by obtain ⟨z, d, h, e⟩ := h; rw [h.1.rv, e]
theorem IsV.fit (h : IsV Z x B) : QFit Z := by obtain ⟨z, d, h, _⟩ := h; exact h.fit
theorem IsV.mono (h : IsV Z x B) (hB : B ≤ C) : IsV Z x C := by obtain ⟨z, d, ⟨h1, h2, h3⟩, e⟩ := h; exact ⟨z, d, ⟨h1, by omega, by omega⟩, e⟩
theorem IsV.add (h : IsV Z x B) (k : IsV Y y C) (hB : 2 * (B * C) < 1000000000 ^ 24) : IsV (addQ Z Y) (x + y) (2 * (B * C)) := by
  obtain ⟨z, d, h, rfl⟩ := h
  obtain ⟨w, e, k, rfl⟩ := k
  have p1 := natQ_pos h.dpos
  have p2 := natQ_pos k.dpos
  exact ⟨_, _, h.add k hB, by push_cast; grind⟩
theorem IsV.max (h : IsV Z x B) (k : IsV Y y C) : IsV (maxQ Z Y) (if y ≤ x then x else y) (Nat.max B C) := by
  rw [maxQ_val h.ok k.ok, h.rv, k.rv]
  split
  · exact h.mono (Nat.le_max_left _ _)
  · exact k.mono (Nat.le_max_right _ _)
theorem intQ_V (a : Int) (ha : a.natAbs ≤ 1000) : IsV (intQ a) (a : Rat) (max a.natAbs 1) := by
  refine ⟨a, 1, ?_, by grind⟩
  have hp : (1000 : Nat) < 1000000000 ^ 24 := by decide +kernel
  rw [intQ_low a ha]
  exact low_S (by decide) (Nat.le_max_left _ _) (Nat.le_max_right _ _) (by omega)
end
end Go.Proofs.Ytdcceppednngjab
