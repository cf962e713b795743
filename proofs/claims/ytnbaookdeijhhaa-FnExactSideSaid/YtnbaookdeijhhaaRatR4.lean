/-
  The reference's fractions: contracts (4): l04Copy, l04Neg.
-/
import Derived.Test.YtnbaookdeijhhaaRatR3
import Derived.Test.YtnbaookdeijhhaaPB
namespace Go.Proofs.Ytnbaookdeijhhaa
open Go.RowKit
set_option linter.unusedVariables false
/-- a fraction of the reference's: its two lists need not lie apart -/
def RatRef (TI : TypeId) (w w' : World) (e : Ending) (Z : (Bool × List Int) × List Int) : Prop :=
  ∃ v d, e = .returned (.agg #[.bool Z.1.1, v, d]) ∧ Both w' w.heap.size TI v Z.1.2 d Z.2 ∧ Below w.heap.size w w'
section
variable {w w' : World} {B B' g : Nat} {E : TypeId} {v1 v2 : Value} {xs ys : List Int}
theorem Both.below (h : Both w B E v1 xs v2 ys) (hb : Below w.heap.size w w') : Both w' B E v1 xs v2 ys :=
  ⟨(h.1.below hb (Nat.le_refl _)).wider (Nat.le_refl _) hb.size, (h.2.below hb (Nat.le_refl _)).wider (Nat.le_refl _) hb.size⟩
theorem Both.form (h : Both w B E v1 xs v2 ys) : ∃ A1 c1 A2 c2, v1 = .slice A1 xs.length c1 ∧ v2 = .slice A2 ys.length c2 := by
  obtain ⟨A1, c1, e1⟩ := h.1.form
  obtain ⟨A2, c2, e2⟩ := h.2.form
  exact ⟨A1, c1, A2, c2, e1, e2⟩
theorem Both.rd {A1 A2 : Option Addr} {c1 c2 : Nat} (h : Both w B E (.slice A1 xs.length c1) xs (.slice A2 ys.length c2) ys) : Rd w w.heap.size A1 (iv xs) ∧ Rd w w.heap.size A2 (iv ys) := ⟨h.1.rd, h.2.rd⟩
theorem Both.setv3 (h : Both w B E v1 xs v2 ys) (hg : g < B) (x y z : Value) : Both (((w.setCell ⟨g, 0, none⟩ x).setCell ⟨g, 1, none⟩ y).setCell ⟨g, 2, none⟩ z) B E v1 xs v2 ys :=
  ⟨by rw [setCell3_size]; exact h.1.setv3 (.inl hg) x y z, by rw [setCell3_size]; exact h.2.setv3 (.inl hg) x y z⟩
end
theorem ret_ref {w W : World} {g B : Nat} {E F : TypeId} {a b c v d : Value} {x : Bool} {xs ds : List Int} (k : Box W g E #[a, b, c]) (o : Both W B F v xs d ds) (hb : Below w.heap.size w W) (hg : w.heap.size ≤ g) (hB : g < B) :
    Box (((W.setCell ⟨g, 0, none⟩ (.bool x)).setCell ⟨g, 1, none⟩ v).setCell ⟨g, 2, none⟩ d) g E #[.bool x, v, d] ∧ Both (((W.setCell ⟨g, 0, none⟩ (.bool x)).setCell ⟨g, 1, none⟩ v).setCell ⟨g, 2, none⟩ d) w.heap.size F v xs d ds ∧ Below w.heap.size w (((W.setCell ⟨g, 0, none⟩ (.bool x)).setCell ⟨g, 1, none⟩ v).setCell ⟨g, 2, none⟩ d) :=
  ⟨k.set3 _ v d, ⟨(o.setv3 hB _ v d).1.wider (by omega) (Nat.le_refl _), (o.setv3 hB _ v d).2.wider (by omega) (Nat.le_refl _)⟩, below_set3 hb hg _ _ _⟩
set_option maxRecDepth 100000 in
set_option maxHeartbeats 3200000 in
theorem spec_Neg (w : World) (B : Nat) (hB : B ≤ w.heap.size) (s : Bool) (A : Option Addr) (n c : Nat) (xs : List Int) (Rx : RdI w B A n xs) (D : Option Addr) (m k : Nat) (ds : List Int) (Rd' : RdI w B D m ds) (hcx : n ≤ c ∧ c ≤ maxLen) (hx : natB xs = true) :
    Calls Try.prog 82 #[.agg #[.bool s, .slice A n c, .slice D m k]] w fun e w' => RatRef 3 w w' e ((!s && !xs.isEmpty, xs), ds) := by
  have hcap : capT xs = xs := by have h := (natB_iff xs).1 hx; rw [capT, trim_self hx, if_pos h.2]
  obtain ⟨hxn, hxr, hxl, hxw⟩ := Rx
  obtain ⟨hdn, hdr, hdl, hdw⟩ := Rd'
  subst hxn
  subst hdn
  obtain ⟨W0, hW0⟩ : ∃ W0, W0 = ((w.alloc (.cells #[.bool s, .slice A xs.length c, .slice D ds.length k] 39)).alloc (.cells #[.bool false, .slice none 0 0, .slice none 0 0] 39)) := ⟨_, rfl⟩
  have hb0 : Below w.heap.size w W0 := by rw [hW0]; exact below_alloc (below_new _ _) _
  have kx : Box W0 (w.heap.size) 39 #[.bool s, .slice A xs.length c, .slice D ds.length k] := by rw [hW0]; exact (Box.last _ _ _ rfl).alloc _
  have kr : Box W0 (w.heap.size + 1) 39 #[.bool false, .slice none 0 0, .slice none 0 0] := by rw [hW0]; exact Box.last _ _ _ (alloc_size _ _).symm
  have hs0 : W0.heap.size = w.heap.size + 2 := by rw [hW0, alloc_size, alloc_size]
  have HC1 := hide (fun (W : World) (h : Below W0.heap.size W0 W) => spec_Make W B (by have := h.size; omega) (!s) A _ c xs rfl (((hxr.below (hb0.mono hB))).below (h.mono (by omega))) hcx.1 hcx.2)
  rw [hcap] at HC1
  have HX := hide kx
  have HRR := hide kr
  have HRD := hide ((hdr.below (hb0.mono hB)).wider (show B ≤ W0.heap.size by omega))
  have HSE := hide hs0
  obtain ⟨a0, a1, a2⟩ := HX.out.cells3
  have HKS := hide (fun (W : World) (hq : Below W0.heap.size W0 W) => (⟨(HX.out.below hq HX.out.lt).cell 0, (HX.out.below hq HX.out.lt).cell 1, (HX.out.below hq HX.out.lt).cell 2⟩ : W.cell? ⟨w.heap.size, 0, none⟩ = some (.bool s) ∧ W.cell? ⟨w.heap.size, 1, none⟩ = some (.slice A xs.length c) ∧ W.cell? ⟨w.heap.size, 2, none⟩ = some (.slice D ds.length k)))
  have HKT := hide (fun (W : World) (hq : Below W0.heap.size W0 W) (x y z : Value) => (⟨((((HX.out.below hq HX.out.lt).setv (show w.heap.size ≠ w.heap.size + 1 by omega) 0 x).setv (show w.heap.size ≠ w.heap.size + 1 by omega) 1 y).setv (show w.heap.size ≠ w.heap.size + 1 by omega) 2 z).cell 0, ((((HX.out.below hq HX.out.lt).setv (show w.heap.size ≠ w.heap.size + 1 by omega) 0 x).setv (show w.heap.size ≠ w.heap.size + 1 by omega) 1 y).setv (show w.heap.size ≠ w.heap.size + 1 by omega) 2 z).cell 1, ((((HX.out.below hq HX.out.lt).setv (show w.heap.size ≠ w.heap.size + 1 by omega) 0 x).setv (show w.heap.size ≠ w.heap.size + 1 by omega) 1 y).setv (show w.heap.size ≠ w.heap.size + 1 by omega) 2 z).cell 2⟩ : (((W.setCell ⟨w.heap.size + 1, 0, none⟩ x).setCell ⟨w.heap.size + 1, 1, none⟩ y).setCell ⟨w.heap.size + 1, 2, none⟩ z).cell? ⟨w.heap.size, 0, none⟩ = some (.bool s) ∧ (((W.setCell ⟨w.heap.size + 1, 0, none⟩ x).setCell ⟨w.heap.size + 1, 1, none⟩ y).setCell ⟨w.heap.size + 1, 2, none⟩ z).cell? ⟨w.heap.size, 1, none⟩ = some (.slice A xs.length c) ∧ (((W.setCell ⟨w.heap.size + 1, 0, none⟩ x).setCell ⟨w.heap.size + 1, 1, none⟩ y).setCell ⟨w.heap.size + 1, 2, none⟩ z).cell? ⟨w.heap.size, 2, none⟩ = some (.slice D ds.length k)))
  have HKR := hide (fun (W : World) (hq : Below W0.heap.size W0 W) => (HRR.out.below hq HRR.out.lt).facts3)
  clear kx kr hxr hdr hs0 hxw hdw hcap hcx hx
  go_enter Try.func82, Try.ntmps82
  go_upto_region 1 with fail
  rw [← hW0]
  clear hW0
  go_region_held_law (fun w' => w'.cell? ⟨w.heap.size, 0, none⟩ = some (.bool s) ∧ w'.cell? ⟨w.heap.size, 1, none⟩ = some (.slice A xs.length c) ∧ w'.cell? ⟨w.heap.size, 2, none⟩ = some (.slice D ds.length k))
      (first | (with_reducible exact HKT.out _ HS2.out _ _ _) | (with_reducible exact HKS.out _ HS2.out) | (with_reducible exact HKS.out _ HS1.out) | (refine HKS.out _ ?_; repeat (first | (with_reducible exact Below.refl _ _) | (with_reducible exact HS1.out) | (with_reducible refine Below.drew ?_) | (with_reducible refine below_alloc ?_ _))))
      (first | (go_at_call 99; refine (HC1.out _ (by repeat (first | (with_reducible exact Below.refl _ _) | (with_reducible refine Below.drew ?_) | (with_reducible refine below_alloc ?_ _)))).mono ?_; rintro e w1 ⟨v1, rfl, o1, hb1⟩; obtain ⟨A1, c1, rfl⟩ := o1.form; have HS1 := hide (below_then ((by repeat (first | (with_reducible exact Below.refl _ _) | (with_reducible refine Below.drew ?_) | (with_reducible refine below_alloc ?_ _))) : Below W0.heap.size W0 _) hb1); have hs1 := hb1.size; (try simp only [alloc_size, drew_size] at hs1)) | (refine step_append_lone Try.sliceInt rfl rfl _ _ rfl _ _ ?_ rfl W0.heap.size D _ k _ rfl (iv_len _) (HRD.out.below (by repeat (first | (with_reducible exact Below.refl _ _) | (with_reducible exact HS1.out) | (with_reducible refine Below.drew ?_) | (with_reducible refine below_alloc ?_ _)))) (iv_one _) (by unfold maxLen; omega) (by omega) ?_; (focus (repeat (first | (with_reducible exact Box.last _ _ _ rfl) | (with_reducible exact Box.last1 _ _ _ _) | (with_reducible refine Box.alloc ?_ _) | (with_reducible refine Box.drew ?_) | (with_reducible refine Box.below ?_ hb1 (by simp only [alloc_size, drew_size]; omega))))); intro v2 w2 b2 hq2 hlt2 o2 ha2; obtain ⟨A2, c2, rfl⟩ := o2.form; have HS2 := hide (((by repeat (first | (with_reducible exact Below.refl _ _) | (with_reducible exact HS1.out) | (with_reducible refine Below.drew ?_) | (with_reducible refine below_alloc ?_ _))) : Below W0.heap.size W0 _).trans (ha2.below (by first | omega | (simp only [alloc_size]; first | done | omega)) (by first | omega | (simp only [alloc_size]; first | done | omega)))); (try simp only [alloc_size] at hq2); have hs2 := ha2.size; (try simp only [alloc_size] at hs2); have o1' : Own w2 W0.heap.size w2.heap.size 3 (.slice A1 xs.length c1) xs.length (iv xs) := (by first | (exact own_up (o1.aside ha2 (by first | omega | (simp only [alloc_size, drew_size]; omega))) (by first | omega | (simp only [alloc_size, drew_size]; omega)) (by omega)) | (exact own_up ((o1.below (below_new w1 _) (Nat.le_refl _)).aside ha2 (by omega)) (by first | omega | (simp only [drew_size]; first | done | omega)) (by omega))); obtain ⟨z0, z1, z2, z3, z4, z5⟩ := HKR.out _ HS2.out))
  all_goals
    have hs0 := HSE.out
    have B2 : Both w2 W0.heap.size 3 (.slice A1 xs.length c1) xs (.slice A2 ds.length c2) ds := ⟨o1', own_up o2 (by omega) (by omega)⟩
    have HO := hide (ret_ref (x := !s && !xs.isEmpty) (HRR.out.below HS2.out HRR.out.lt) B2 (below_then hb0 HS2.out) (show w.heap.size ≤ w.heap.size + 1 by omega) (show w.heap.size + 1 < W0.heap.size by omega))
    clear B2 o1 o1' o2 z0 z1 z2 z3 z4 z5 hb1 ha2
    go_wp2_with fail
    refine bodyPost_ret (results_cell_row rfl _ _ (w.heap.size + 1) _ #[.bool (!s && !xs.isEmpty), .slice A1 xs.length c1, .slice A2 ds.length c2] (0, 0) _ rfl HO.out.1 Try.underlying39 rfl Try.sizeRat) rfl ?_
    exact ⟨_, _, rfl, HO.out.2.1, HO.out.2.2⟩
end Go.Proofs.Ytnbaookdeijhhaa
