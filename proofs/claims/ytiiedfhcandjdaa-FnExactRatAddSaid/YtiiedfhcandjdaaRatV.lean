/-
  The exact laws' walks over fractions: the variables that a drawn region makes.
-/
import Derived.Test.YtiiedfhcandjdaaRatL
import Derived.Test.YtiiedfhcandjdaaRatR4
namespace Go.Proofs.Ytiiedfhcandjdaa
open Go.RowKit
set_option linter.unusedVariables false

theorem Both.hull {w : World} {B : Nat} {E : TypeId} {v1 v2 : Value} {xs ys : List Int} (h : Both w B E v1 xs v2 ys) : BothH w B w.heap.size E v1 xs.length (iv xs) v2 ys.length (iv ys) := h
def VarP (w wx : World) (sx : Value) (b : Bool) (L D : List Int) (TB TI : TypeId) : Prop :=
  ∃ g A c K k lo hi, sx = .pointer (some ⟨g, 0, none⟩) ∧ Box wx g TB #[.bool b, .slice A L.length c, .slice K D.length k] ∧ PairH wx lo hi TI (.slice A L.length c) L.length (iv L) (.slice K D.length k) D.length (iv D) ∧ w.heap.size ≤ lo ∧ hi ≤ wx.heap.size ∧ w.heap.size ≤ g ∧ (g < lo ∨ hi ≤ g) ∧ Below w.heap.size w wx
def VarB (w wx : World) (sx : Value) (b : Bool) (L D : List Int) (TB TI : TypeId) : Prop :=
  ∃ g A c K k lo hi, sx = .pointer (some ⟨g, 0, none⟩) ∧ Box wx g TB #[.bool b, .slice A L.length c, .slice K D.length k] ∧ BothH wx lo hi TI (.slice A L.length c) L.length (iv L) (.slice K D.length k) D.length (iv D) ∧ w.heap.size ≤ lo ∧ hi ≤ wx.heap.size ∧ w.heap.size ≤ g ∧ (g < lo ∨ hi ≤ g) ∧ Below w.heap.size w wx
section
variable {w w3 : World} {g : Nat} {x y z : Value} {b : Bool} {L D : List Int} {TB TI : TypeId} {A K : Option Addr} {c k lo hi : Nat}
theorem PairH.setv3 {E : TypeId} {v1 v2 : Value} {n1 n2 : Nat} {X1 X2 : List Value} (h : PairH w lo hi E v1 n1 X1 v2 n2 X2) (hg : g < lo) (x y z : Value) : PairH (((w.setCell ⟨g, 0, none⟩ x).setCell ⟨g, 1, none⟩ y).setCell ⟨g, 2, none⟩ z) lo hi E v1 n1 X1 v2 n2 X2 := by
  obtain ⟨l1, h1, l2, h2, o1, o2, a, b, r⟩ := h
  exact ⟨l1, h1, l2, h2, o1.setv3 (.inl (by omega)) x y z, o2.setv3 (.inl (by omega)) x y z, a, b, r⟩
theorem BothH.setv3 {E : TypeId} {v1 v2 : Value} {n1 n2 : Nat} {X1 X2 : List Value} (h : BothH w lo hi E v1 n1 X1 v2 n2 X2) (hg : g < lo) (x y z : Value) : BothH (((w.setCell ⟨g, 0, none⟩ x).setCell ⟨g, 1, none⟩ y).setCell ⟨g, 2, none⟩ z) lo hi E v1 n1 X1 v2 n2 X2 :=
  ⟨h.1.setv3 (.inl hg) x y z, h.2.setv3 (.inl hg) x y z⟩
theorem varp_last (hb : Below w.heap.size w w3) (o : PairH w3 lo hi TI (.slice A L.length c) L.length (iv L) (.slice K D.length k) D.length (iv D)) (hlo : w.heap.size ≤ lo) (hhi : hi ≤ w3.heap.size) :
    VarP w (w3.alloc (.cells #[.bool b, .slice A L.length c, .slice K D.length k] TB)) (.pointer (some ⟨w3.heap.size, 0, none⟩)) b L D TB TI :=
  ⟨w3.heap.size, A, c, K, k, lo, hi, rfl, Box.last _ _ _ rfl, o.below (below_new w3 _) hhi, hlo, by rw [alloc_size]; omega, hb.size, .inr hhi, below_alloc hb _⟩
theorem varb_last (hb : Below w.heap.size w w3) (o : BothH w3 lo hi TI (.slice A L.length c) L.length (iv L) (.slice K D.length k) D.length (iv D)) (hlo : w.heap.size ≤ lo) (hhi : hi ≤ w3.heap.size) :
    VarB w (w3.alloc (.cells #[.bool b, .slice A L.length c, .slice K D.length k] TB)) (.pointer (some ⟨w3.heap.size, 0, none⟩)) b L D TB TI :=
  ⟨w3.heap.size, A, c, K, k, lo, hi, rfl, Box.last _ _ _ rfl, o.below (below_new w3 _) hhi, hlo, by rw [alloc_size]; omega, hb.size, .inr hhi, below_alloc hb _⟩
theorem varp_set (kb : Box w3 g TB #[x, y, z]) (hb : Below w.heap.size w w3) (o : PairH w3 lo hi TI (.slice A L.length c) L.length (iv L) (.slice K D.length k) D.length (iv D)) (hlo : w.heap.size ≤ lo) (hhi : hi ≤ w3.heap.size) (hg : w.heap.size ≤ g) (hgl : g < lo) :
    VarP w (((w3.setCell ⟨g, 0, none⟩ (.bool b)).setCell ⟨g, 1, none⟩ (.slice A L.length c)).setCell ⟨g, 2, none⟩ (.slice K D.length k)) (.pointer (some ⟨g, 0, none⟩)) b L D TB TI :=
  ⟨g, A, c, K, k, lo, hi, rfl, kb.set3 _ _ _, o.setv3 hgl _ _ _, hlo, by rw [setCell3_size]; exact hhi, hg, .inl hgl, below_set3 hb hg _ _ _⟩
theorem varb_set (kb : Box w3 g TB #[x, y, z]) (hb : Below w.heap.size w w3) (o : BothH w3 lo hi TI (.slice A L.length c) L.length (iv L) (.slice K D.length k) D.length (iv D)) (hlo : w.heap.size ≤ lo) (hhi : hi ≤ w3.heap.size) (hg : w.heap.size ≤ g) (hgl : g < lo) :
    VarB w (((w3.setCell ⟨g, 0, none⟩ (.bool b)).setCell ⟨g, 1, none⟩ (.slice A L.length c)).setCell ⟨g, 2, none⟩ (.slice K D.length k)) (.pointer (some ⟨g, 0, none⟩)) b L D TB TI :=
  ⟨g, A, c, K, k, lo, hi, rfl, kb.set3 _ _ _, o.setv3 hgl _ _ _, hlo, by rw [setCell3_size]; exact hhi, hg, .inl hgl, below_set3 hb hg _ _ _⟩
end
end Go.Proofs.Ytiiedfhcandjdaa
