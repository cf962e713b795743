/-
  Signed numbers of any length in memory: what reads as a number, what is of the call's own; times, minus, sign, signedOf; scaled points.
-/
import Derived.Test.YtafhhemojdblpaaGreatBX
import Derived.Test.YtafhhemojdblpaaGreatPtM
import Derived.Test.YtafhhemojdblpaaGreatPC
namespace Go.Proofs.YtafhhemojdblpaaGreat
open Go.RowKit
set_option linter.unusedVariables false
def Sz (k : Nat) (z : Int) : Prop := z.natAbs < 1000000000 ^ k
theorem Sz.mono {j k : Nat} {z : Int} (h : Sz j z) (hk : j ≤ k) : Sz k z := Nat.lt_of_lt_of_le h (Nat.pow_le_pow_right (by omega) hk)
theorem Sz.mul {j k : Nat} {a b : Int} (h : Sz j a) (h' : Sz k b) : Sz (j + k) (a * b) := by
  unfold Sz at *
  rw [Int.natAbs_mul, Nat.pow_add]
  exact Nat.mul_lt_mul'' h h'
theorem pow_two {k : Nat} : 1000000000 ^ k + 1000000000 ^ k ≤ 1000000000 ^ (k + 1) := by rw [Nat.pow_succ]; omega
theorem Sz.sub {k : Nat} {a b : Int} (h : Sz k a) (h' : Sz k b) : Sz (k + 1) (a - b) := by
  have := pow_two (k := k)
  have := Int.natAbs_sub_le a b
  unfold Sz at *; omega
theorem Sz.len {k : Nat} {z : Int} (h : Sz k z) : (limbs z.natAbs).length ≤ k := limbs_len.2 h
/-- the number z, list and sign, readable below block B -/
def SIn (w : World) (B : Nat) (v b : Value) (z : Int) : Prop := ∃ A n c g, v = .slice A n c ∧ b = .bool g ∧ SgnOk g z ∧ RdI w B A n (limbs z.natAbs)
def SOwn (w : World) (lo hi : Nat) (E : TypeId) (v b : Value) (z : Int) : Prop := ∃ g, b = .bool g ∧ SgnOk g z ∧ Own w lo hi E v (limbs z.natAbs).length (iv (limbs z.natAbs))
def SRes (TI : TypeId) (w w' : World) (e : Ending) (z : Int) : Prop := ∃ v b, e = .returned (.agg #[v, b]) ∧ SOwn w' w.heap.size w'.heap.size TI v b z ∧ Below w.heap.size w w'
def S2 (v b : Value) : Prop := ∃ A n c g, v = .slice A n c ∧ b = .bool g
section
variable {w w' : World} {B B' lo hi lo' hi' g : Nat} {E : TypeId} {v b : Value} {z : Int}
theorem SIn.below (h : SIn w B v b z) (hb : Below B w w') : SIn w' B v b z := by
  obtain ⟨A, n, c, s, e0, e1, hs, r⟩ := h
  exact ⟨A, n, c, s, e0, e1, hs, r.below hb⟩
theorem SIn.wider (h : SIn w B v b z) (hB : B ≤ B') : SIn w B' v b z := by
  obtain ⟨A, n, c, s, e0, e1, hs, r⟩ := h
  exact ⟨A, n, c, s, e0, e1, hs, r.1, r.2.1.wider hB, r.2.2⟩
theorem SIn.up (h : SIn w w.heap.size v b z) (hb : Below w.heap.size w w') : SIn w' w'.heap.size v b z := (h.below hb).wider hb.size
theorem SIn.cut (h : SIn w B v b z) : S2 v b := by
  obtain ⟨A, n, c, s, e0, e1, _⟩ := h
  exact ⟨A, n, c, s, e0, e1⟩
theorem SOwn.cut (h : SOwn w lo hi E v b z) : S2 v b := by
  obtain ⟨s, e1, _, o⟩ := h
  obtain ⟨A, c, e0⟩ := o.form
  exact ⟨A, _, c, s, e0, e1⟩
theorem SOwn.below (h : SOwn w lo hi E v b z) (hb : Below B w w') (hh : hi ≤ B) : SOwn w' lo hi E v b z := by
  obtain ⟨s, e1, hs, o⟩ := h
  exact ⟨s, e1, hs, o.below hb hh⟩
theorem SOwn.aside (h : SOwn w lo hi E v b z) (ha : Aside lo' hi' w w') (hd : hi ≤ lo' ∨ hi' ≤ lo) : SOwn w' lo hi E v b z := by
  obtain ⟨s, e1, hs, o⟩ := h
  exact ⟨s, e1, hs, o.aside ha hd⟩
theorem SOwn.setv (h : SOwn w lo hi E v b z) (hg : g < lo ∨ hi ≤ g) (j : Nat) (u : Value) : SOwn (w.setCell ⟨g, j, none⟩ u) lo hi E v b z :=
  h.aside ((Aside.refl w (lo := g) (hi := g + 1)).setCell (Nat.le_refl _) (Nat.lt_succ_self _) u) (by omega)
theorem SOwn.wider (h : SOwn w lo hi E v b z) (hl : lo' ≤ lo) (hh : hi ≤ hi') : SOwn w lo' hi' E v b z := by
  obtain ⟨s, e1, hs, o⟩ := h
  exact ⟨s, e1, hs, o.wider hl hh⟩
theorem SOwn.in_ (h : SOwn w lo hi E v b z) {k : Nat} (f : Sz k z ∧ k ≤ 1000000) (hh : hi ≤ B) : SIn w B v b z := by
  obtain ⟨s, e1, hs, o⟩ := h
  obtain ⟨A, c, rfl⟩ := o.form
  have := f.1.len
  exact ⟨A, _, c, s, rfl, e1, hs, rfl, o.rdB hh, by omega, wfL_of (limbs_ok _)⟩
end
theorem PlusR.s {w w' : World} {e : Ending} {z : Int} (h : PlusR w w' e z) : SRes 3 w w' e z := by
  obtain ⟨v, g, he, hs, o, hb⟩ := h
  exact ⟨v, .bool g, he, ⟨g, rfl, hs, o⟩, hb⟩
/-! ### scaled points: two coordinates over one scale -/
def CIn (w : World) (B : Nat) (c0 c1 c2 c3 c4 c5 : Value) (T : Int × Int × Int) : Prop := SIn w B c1 c0 T.1 ∧ SIn w B c3 c2 T.2.1 ∧ SIn w B c5 c4 T.2.2
def COwn (w : World) (lo hi : Nat) (E : TypeId) (c0 c1 c2 c3 c4 c5 : Value) (T : Int × Int × Int) : Prop := SOwn w lo hi E c1 c0 T.1 ∧ SOwn w lo hi E c3 c2 T.2.1 ∧ SOwn w lo hi E c5 c4 T.2.2
def C6 (c0 c1 c2 c3 c4 c5 : Value) : Prop := ∃ b A n c yb yA yn yc zb zA zn zc, c0 = .bool b ∧ c1 = .slice A n c ∧ c2 = .bool yb ∧ c3 = .slice yA yn yc ∧ c4 = .bool zb ∧ c5 = .slice zA zn zc
def SzC (T : Int × Int × Int) : Prop := Sz 48 T.1 ∧ Sz 48 T.2.1 ∧ Sz 48 T.2.2
section
variable {w w' : World} {B B' lo hi lo' hi' g : Nat} {E : TypeId} {c0 c1 c2 c3 c4 c5 : Value} {T : Int × Int × Int}
theorem CIn.below (h : CIn w B c0 c1 c2 c3 c4 c5 T) (hb : Below B w w') : CIn w' B c0 c1 c2 c3 c4 c5 T := ⟨h.1.below hb, h.2.1.below hb, h.2.2.below hb⟩
theorem CIn.wider (h : CIn w B c0 c1 c2 c3 c4 c5 T) (hB : B ≤ B') : CIn w B' c0 c1 c2 c3 c4 c5 T := ⟨h.1.wider hB, h.2.1.wider hB, h.2.2.wider hB⟩
theorem CIn.up (h : CIn w w.heap.size c0 c1 c2 c3 c4 c5 T) (hb : Below w.heap.size w w') : CIn w' w'.heap.size c0 c1 c2 c3 c4 c5 T := (h.below hb).wider hb.size
theorem CIn.s1 (h : CIn w B c0 c1 c2 c3 c4 c5 T) : SIn w B c1 c0 T.1 := h.1
theorem CIn.s2 (h : CIn w B c0 c1 c2 c3 c4 c5 T) : SIn w B c3 c2 T.2.1 := h.2.1
theorem CIn.s3 (h : CIn w B c0 c1 c2 c3 c4 c5 T) : SIn w B c5 c4 T.2.2 := h.2.2
theorem CIn.cut (h : CIn w B c0 c1 c2 c3 c4 c5 T) : C6 c0 c1 c2 c3 c4 c5 := by
  obtain ⟨A, n, c, b, e0, e1⟩ := h.1.cut
  obtain ⟨yA, yn, yc, yb, e2, e3⟩ := h.2.1.cut
  obtain ⟨zA, zn, zc, zb, e4, e5⟩ := h.2.2.cut
  exact ⟨b, A, n, c, yb, yA, yn, yc, zb, zA, zn, zc, e1, e0, e3, e2, e5, e4⟩
theorem COwn.below (h : COwn w lo hi E c0 c1 c2 c3 c4 c5 T) (hb : Below B w w') (hh : hi ≤ B) : COwn w' lo hi E c0 c1 c2 c3 c4 c5 T := ⟨h.1.below hb hh, h.2.1.below hb hh, h.2.2.below hb hh⟩
theorem COwn.setv (h : COwn w lo hi E c0 c1 c2 c3 c4 c5 T) (hg : g < lo ∨ hi ≤ g) (j : Nat) (u : Value) : COwn (w.setCell ⟨g, j, none⟩ u) lo hi E c0 c1 c2 c3 c4 c5 T := ⟨h.1.setv hg j u, h.2.1.setv hg j u, h.2.2.setv hg j u⟩
theorem COwn.wider (h : COwn w lo hi E c0 c1 c2 c3 c4 c5 T) (hl : lo' ≤ lo) (hh : hi ≤ hi') : COwn w lo' hi' E c0 c1 c2 c3 c4 c5 T := ⟨h.1.wider hl hh, h.2.1.wider hl hh, h.2.2.wider hl hh⟩
theorem COwn.in_ (h : COwn w lo hi E c0 c1 c2 c3 c4 c5 T) (f : SzC T) (hh : hi ≤ B) : CIn w B c0 c1 c2 c3 c4 c5 T := ⟨h.1.in_ ⟨f.1, by omega⟩ hh, h.2.1.in_ ⟨f.2.1, by omega⟩ hh, h.2.2.in_ ⟨f.2.2, by omega⟩ hh⟩
theorem COwn.cut (h : COwn w lo hi E c0 c1 c2 c3 c4 c5 T) : C6 c0 c1 c2 c3 c4 c5 := by
  obtain ⟨A, n, c, b, e0, e1⟩ := h.1.cut
  obtain ⟨yA, yn, yc, yb, e2, e3⟩ := h.2.1.cut
  obtain ⟨zA, zn, zc, zb, e4, e5⟩ := h.2.2.cut
  exact ⟨b, A, n, c, yb, yA, yn, yc, zb, zA, zn, zc, e1, e0, e3, e2, e5, e4⟩
end
/-- a point over one scale -/
def scP (P : PQ) : Int × Int × Int := (zv P.1.1.1 P.1.1.2 * natV P.2.2, zv P.2.1.1 P.2.1.2 * natV P.1.2, (natV P.1.2 : Int) * natV P.2.2)
end Go.Proofs.YtafhhemojdblpaaGreat
