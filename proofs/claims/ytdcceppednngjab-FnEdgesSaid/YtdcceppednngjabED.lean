/-
  The texts EdgP, EdgM, put together; each has its own heading below. No condition of ours.
-/
import Derived.Test.YtdcceppednngjabSG
import Derived.Test.YtdcceppednngjabFreQ
import Derived.Test.YtdcceppednngjabPI
import Derived.Test.YtdcceppednngjabPT
import Derived.Test.YtdcceppednngjabLB
/-
  Edges: plain: which are valid, what they span, where two cross and where one has a height, told of fractions; the program's one fraction and the reference's arithmetic give the same one.
-/



namespace Go.Proofs.Ytdcceppednngjab
open Go.RowKit
set_option linter.unusedVariables false
/-- an edge's ends are valid, and the first lies left of the second -/
def edgeB (a b c d : Int) : Bool := (vecB a b && vecB c d) && decide (a < c)
def spanB (a b c d : Int) (Z Y : RQ) : Bool := edgeB a b c d && (ratQ Z && (ratQ Y && (decide (cqR (intQ a) Z ≤ 0) && decide (0 ≤ cqR (intQ c) Y))))
def crsN (a b c d p q r s : Int) : Int := (q * r - p * s) * (c - a) - (b * c - a * d) * (r - p)
def crsD (a b c d p q r s : Int) : Int := (d - b) * (r - p) - (s - q) * (c - a)
def crsX (a b c d p q r s : Int) : RQ := ofQ (crsN a b c d p q r s) (crsD a b c d p q r s)
def crsB (a b c d p q r s : Int) : Bool := spanB a b c d (crsX a b c d p q r s) (crsX a b c d p q r s) && spanB p q r s (crsX a b c d p q r s) (crsX a b c d p q r s)
def crossQ (a b c d p q r s : Int) : RQ := if crsB a b c d p q r s then crsX a b c d p q r s else noR
def lvlB (a b c d y : Int) : Bool := crsB a b c d a y c y
def lvlQ (a b c d y : Int) : RQ := crossQ a b c d a y c y
theorem edge_iff {a b c d : Int} : edgeB a b c d = true ↔ ((-1000 ≤ a ∧ a ≤ 1000) ∧ (-1000 ≤ b ∧ b ≤ 1000)) ∧ ((-1000 ≤ c ∧ c ≤ 1000) ∧ (-1000 ≤ d ∧ d ≤ 1000)) ∧ a < c := by
  unfold edgeB vecB
  simp only [Bool.and_eq_true, decide_eq_true_eq, and_assoc]
theorem lowR_den0 (z : Int) : lowR z 0 = noR := by
  rcases lowR_cases z 0 with h | ⟨h, _⟩
  · exact h
  · exact absurd h (by decide)
theorem ofQ_eq (a m : Int) (ha : a.natAbs < 1000000000 ^ 60) (hm : m.natAbs < 1000000000 ^ 60) : ofQ a m = lowR (if m < 0 then -a else a) m.natAbs := by
  obtain ⟨b1, z1, _, _⟩ := capZ_back (z := a) ha
  obtain ⟨b2, _, _, n2⟩ := capZ_back (z := m) hm
  rw [ofQ, makeR, b1, b2, capZ_sign m hm, z1, n2]
  simp only [Bool.and_self, if_true]
  by_cases h : m < 0
  · rw [decide_eq_true h, if_pos rfl, if_pos h]
  · rw [decide_eq_false h, if_neg (by decide), if_neg h]
theorem ofQ_none (a : Int) (ha : a.natAbs < 1000000000 ^ 60) : ofQ a 0 = noR := by
  rw [ofQ_eq a 0 ha (by decide +kernel)]
  exact lowR_den0 _
theorem ofQ_V {a m : Int} {B : Nat} (h0 : m ≠ 0) (ha : a.natAbs ≤ B) (hm : m.natAbs ≤ B) (hB : B < 1000000000 ^ 24) : IsV (ofQ a m) ((a : Rat) / (m : Rat)) B := by
  have hC : (1000000000 : Nat) ^ 24 < 1000000000 ^ 60 := by decide +kernel
  rw [ofQ_eq a m (by omega) (by omega)]
  refine ⟨_, _, low_S (by omega) (by split <;> omega) hm hB, ?_⟩
  by_cases h : m < 0
  · have e1 : ((m.natAbs : Nat) : Rat) = -(m : Rat) := by
      have : ((m.natAbs : Nat) : Int) = -m := by omega
      exact_mod_cast congrArg (Int.cast (R := Rat)) this
    have m0 : (m : Rat) ≠ 0 := by exact_mod_cast h0
    rw [if_pos h, e1]; push_cast; grind
  · have e1 : ((m.natAbs : Nat) : Rat) = (m : Rat) := by
      have : ((m.natAbs : Nat) : Int) = m := by omega
      exact_mod_cast congrArg (Int.cast (R := Rat)) this
    rw [if_neg h, e1]
theorem int_V {a : Int} (h : -1000 ≤ a ∧ a ≤ 1000) : IsV (intQ a) (a : Rat) 1000 := (intQ_V a (by omega)).mono (by omega)
theorem cq_rv {Z Y : RQ} (h : ratQ Z = true) (k : ratQ Y = true) : (cqR Z Y < 0 ↔ rv Z < rv Y) ∧ (cqR Z Y = 0 ↔ rv Z = rv Y) ∧ (0 < cqR Z Y ↔ rv Y < rv Z) := by
  have e : cqR Z Y = cmpW Z.1.1 Z.1.2 Z.2 Y.1.1 Y.1.2 Y.2 := by
    unfold cqR cmpR
    unfold ratQ at h k
    rw [h, k]; rfl
  rw [e]; exact cmpW_rv h k
theorem crsN_le {a b c d p q r s : Int} (h : edgeB a b c d = true) (k : edgeB p q r s = true) : (crsN a b c d p q r s).natAbs ≤ 8000000000 ∧ (crsD a b c d p q r s).natAbs ≤ 8000000000 := by
  have h' := edge_iff.1 h
  have k' := edge_iff.1 k
  have m : ∀ {x y : Int} {B C : Nat}, x.natAbs ≤ B → y.natAbs ≤ C → (x * y).natAbs ≤ B * C := fun hx hy => ab_mul hx hy
  have o : ∀ {x y z t : Int}, x.natAbs ≤ 1000 → y.natAbs ≤ 1000 → z.natAbs ≤ 1000 → t.natAbs ≤ 1000 → (x * y - z * t).natAbs ≤ 2000000 := by
    intro x y z t hx hy hz ht
    have := m hx hy
    have := m hz ht
    omega
  unfold crsN crsD
  have e1 := m (o (x := q) (y := r) (z := p) (t := s) (by omega) (by omega) (by omega) (by omega)) (show (c - a).natAbs ≤ 2000 by omega)
  have e2 := m (o (x := b) (y := c) (z := a) (t := d) (by omega) (by omega) (by omega) (by omega)) (show (r - p).natAbs ≤ 2000 by omega)
  have e3 := m (show (d - b).natAbs ≤ 2000 by omega) (show (r - p).natAbs ≤ 2000 by omega)
  have e4 := m (show (s - q).natAbs ≤ 2000 by omega) (show (c - a).natAbs ≤ 2000 by omega)
  constructor <;> omega
theorem crsX_V {a b c d p q r s : Int} (h : edgeB a b c d = true) (k : edgeB p q r s = true) (h0 : crsD a b c d p q r s ≠ 0) : IsV (crsX a b c d p q r s) (((crsN a b c d p q r s : Int) : Rat) / ((crsD a b c d p q r s : Int) : Rat)) 8000000000 :=
  ofQ_V h0 (crsN_le h k).1 (crsN_le h k).2 (by decide +kernel)
theorem crsX_no {a b c d p q r s : Int} (h : edgeB a b c d = true) (k : edgeB p q r s = true) (h0 : crsD a b c d p q r s = 0) : crsX a b c d p q r s = noR := by
  unfold crsX
  rw [h0]
  refine ofQ_none _ (Nat.lt_of_le_of_lt (crsN_le h k).1 (by decide +kernel))
theorem span_no (a b c d : Int) : spanB a b c d noR noR = false := by
  unfold spanB; rw [noR_bad]; simp
theorem span_bad {a b c d : Int} (h : edgeB a b c d = false) (Z Y : RQ) : spanB a b c d Z Y = false := by
  unfold spanB; rw [h]; rfl
theorem crs_bad {a b c d p q r s : Int} (h : edgeB a b c d = false ∨ edgeB p q r s = false) : crsB a b c d p q r s = false := by
  unfold crsB
  rcases h with h | h
  · rw [span_bad h]; rfl
  · rw [span_bad h, Bool.and_false]
theorem crs_par {a b c d p q r s : Int} (h : edgeB a b c d = true) (k : edgeB p q r s = true) (h0 : crsD a b c d p q r s = 0) : crsB a b c d p q r s = false := by
  unfold crsB
  rw [crsX_no h k h0, span_no]; rfl
/-! the height y -/
theorem lvl_edge {a b c d y : Int} (h : edgeB a b c d = true) : edgeB a y c y = decide (-1000 ≤ y ∧ y ≤ 1000) := by
  have h' := edge_iff.1 h
  by_cases hy : -1000 ≤ y ∧ y ≤ 1000
  · rw [decide_eq_true hy, edge_iff]; omega
  · rw [decide_eq_false hy]
    cases hh : edgeB a y c y with
    | false => rfl
    | true => exact absurd (edge_iff.1 hh).1.2 hy
theorem lvl_D {a b c d y : Int} (h : edgeB a b c d = true) : crsD a b c d a y c y = 0 ↔ b = d := by
  have h' := edge_iff.1 h
  unfold crsD
  rw [show y - y = 0 by omega, Int.zero_mul, Int.sub_zero, Int.mul_eq_zero]
  omega
theorem lvl_span {a b c d y : Int} (h : edgeB a b c d = true) (hy : -1000 ≤ y ∧ y ≤ 1000) (Z : RQ) : (spanB a b c d Z Z && spanB a y c y Z Z) = spanB a b c d Z Z := by
  have k : edgeB a y c y = true := by rw [lvl_edge h]; exact decide_eq_true hy
  unfold spanB
  rw [h, k, Bool.and_self]
end Go.Proofs.Ytdcceppednngjab

/-
  Edges in memory: six cells; the line of an edge: three ints.
-/


namespace Go.Proofs.Ytdcceppednngjab
open Go.RowKit
set_option linter.unusedVariables false
def set6E (w : World) (g : Nat) (a b c d e f : Value) : World := (((((w.setCell ⟨g, 0, none⟩ a).setCell ⟨g, 1, none⟩ b).setCell ⟨g, 2, none⟩ c).setCell ⟨g, 3, none⟩ d).setCell ⟨g, 4, none⟩ e).setCell ⟨g, 5, none⟩ f
theorem Box.set6E {w : World} {g : Nat} {E : TypeId} {a b c d e f a' b' c' d' e' f' : Value} (h : Box w g E #[a', b', c', d', e', f']) : Box (set6E w g a b c d e f) g E #[a, b, c, d, e, f] := by
  have k0 : Box (w.setCell ⟨g, 0, none⟩ a) g E #[a, b', c', d', e', f'] := h.set 0 _
  have k1 : Box ((w.setCell ⟨g, 0, none⟩ a).setCell ⟨g, 1, none⟩ b) g E #[a, b, c', d', e', f'] := k0.set 1 _
  have k2 : Box (((w.setCell ⟨g, 0, none⟩ a).setCell ⟨g, 1, none⟩ b).setCell ⟨g, 2, none⟩ c) g E #[a, b, c, d', e', f'] := k1.set 2 _
  have k3 : Box ((((w.setCell ⟨g, 0, none⟩ a).setCell ⟨g, 1, none⟩ b).setCell ⟨g, 2, none⟩ c).setCell ⟨g, 3, none⟩ d) g E #[a, b, c, d, e', f'] := k2.set 3 _
  have k4 : Box (((((w.setCell ⟨g, 0, none⟩ a).setCell ⟨g, 1, none⟩ b).setCell ⟨g, 2, none⟩ c).setCell ⟨g, 3, none⟩ d).setCell ⟨g, 4, none⟩ e) g E #[a, b, c, d, e, f'] := k3.set 4 _
  have k5 : Box ((((((w.setCell ⟨g, 0, none⟩ a).setCell ⟨g, 1, none⟩ b).setCell ⟨g, 2, none⟩ c).setCell ⟨g, 3, none⟩ d).setCell ⟨g, 4, none⟩ e).setCell ⟨g, 5, none⟩ f) g E #[a, b, c, d, e, f] := k4.set 5 _
  exact k5
theorem Box.setv6E {w : World} {g g' : Nat} {E : TypeId} {cs : Array Value} (h : Box w g E cs) (hg : g ≠ g') (a b c d e f : Value) : Box (Go.Proofs.Ytdcceppednngjab.set6E w g' a b c d e f) g E cs := (((((h.setv hg 0 a).setv hg 1 b).setv hg 2 c).setv hg 3 d).setv hg 4 e).setv hg 5 f
theorem set6E_below {w W : World} {B g : Nat} (hb : Below B w W) (hg : B ≤ g) (a b c d e f : Value) : Below B w (set6E W g a b c d e f) := (((((hb.setCell (p := ⟨g, 0, none⟩) hg a).setCell (p := ⟨g, 1, none⟩) hg b).setCell (p := ⟨g, 2, none⟩) hg c).setCell (p := ⟨g, 3, none⟩) hg d).setCell (p := ⟨g, 4, none⟩) hg e).setCell (p := ⟨g, 5, none⟩) hg f
theorem Try.sizeEdge : (Try.prog.info? 26).map (·.size) = some 6 := by kernel_rfl
def set3E (w : World) (g : Nat) (a b c : Value) : World := ((w.setCell ⟨g, 0, none⟩ a).setCell ⟨g, 1, none⟩ b).setCell ⟨g, 2, none⟩ c
theorem Box.set3E {w : World} {g : Nat} {E : TypeId} {a b c a' b' c' : Value} (h : Box w g E #[a', b', c']) : Box (set3E w g a b c) g E #[a, b, c] := by
  have k0 : Box (w.setCell ⟨g, 0, none⟩ a) g E #[a, b', c'] := h.set 0 _
  have k1 : Box ((w.setCell ⟨g, 0, none⟩ a).setCell ⟨g, 1, none⟩ b) g E #[a, b, c'] := k0.set 1 _
  have k2 : Box (((w.setCell ⟨g, 0, none⟩ a).setCell ⟨g, 1, none⟩ b).setCell ⟨g, 2, none⟩ c) g E #[a, b, c] := k1.set 2 _
  exact k2
theorem set3E_size {w : World} {g : Nat} {a b c : Value} : (set3E w g a b c).heap.size = w.heap.size := by unfold set3E; simp only [setCell_size]
theorem Box.setv3E {w : World} {g g' : Nat} {E : TypeId} {cs : Array Value} (h : Box w g E cs) (hg : g ≠ g') (a b c : Value) : Box (Go.Proofs.Ytdcceppednngjab.set3E w g' a b c) g E cs := ((h.setv hg 0 a).setv hg 1 b).setv hg 2 c
theorem set3E_below {w W : World} {B g : Nat} (hb : Below B w W) (hg : B ≤ g) (a b c : Value) : Below B w (set3E W g a b c) := ((hb.setCell (p := ⟨g, 0, none⟩) hg a).setCell (p := ⟨g, 1, none⟩) hg b).setCell (p := ⟨g, 2, none⟩) hg c
theorem Try.sizeLine : (Try.prog.info? 46).map (·.size) = some 3 := by kernel_rfl
/-- a fraction of one's own, beside a Bool -/
def XRes (TI : TypeId) (w w' : World) (e : Ending) (Z : RQ) (b : Bool) : Prop :=
  ∃ v0 v1 v2, e = .returned (.tuple #[.agg #[v0, v1, v2], .bool b]) ∧ QOwn w' w.heap.size w'.heap.size TI v0 v1 v2 Z ∧ Below w.heap.size w w'
end Go.Proofs.Ytdcceppednngjab
