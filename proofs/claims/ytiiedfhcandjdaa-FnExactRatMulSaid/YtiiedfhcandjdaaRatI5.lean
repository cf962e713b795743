/-
  The program's fractions: contracts (5): negated, copied.
-/
import Derived.Test.YtiiedfhcandjdaaRatI4
namespace Go.Proofs.Ytiiedfhcandjdaa
open Go.RowKit
set_option linter.unusedVariables false
theorem impl_widenedSame (w : World) (B : Nat) (hB : B ≤ w.heap.size) (D : Option Addr) (m k : Nat) (ds : List Int) (Rd' : RdI w B D m ds) (hl : m ≤ 1000000) :
    Calls Try.prog 111 #[.slice D m k, .int .i64 m] w fun e w' => ∃ v, e = .returned v ∧ Own w' w.heap.size w'.heap.size 3 v ds.length (iv ds) ∧ Below w.heap.size w w' := by
  refine (impl_widened w B hB D m k m ds Rd'.1 Rd'.2.1 (Nat.le_refl _) hl).mono ?_
  rintro e w1 ⟨g, rfl, hg, hblk, hb⟩
  rw [Nat.sub_self, List.replicate_zero, List.append_nil] at hblk
  have hlt := hblk.lt
  have ho := (hblk.own m m (by have := Rd'.1; omega) (by have := Rd'.1; omega)).wider hg (show g + 1 ≤ w1.heap.size by omega)
  rw [List.take_of_length_le (by have := Rd'.1; omega)] at ho
  have e1 := Rd'.1
  subst e1
  exact ⟨_, rfl, ho, hb⟩
set_option maxHeartbeats 3200000 in
theorem impl_ratNegated (w : World) (B : Nat) (hB : B ≤ w.heap.size) (s : Bool) (A : Option Addr) (n c : Nat) (xs : List Int) (Rx : RdI w B A n xs) (D : Option Addr) (m k : Nat) (ds : List Int) (Rd' : RdI w B D m ds) (hl : m ≤ 1000000) :
    Calls Try.prog 76 #[.agg #[.bool s, .slice A n c, .slice D m k]] w fun e w' => RatRes 3 w w' e (negZ s xs, ds) := by
  obtain ⟨W0, hW0⟩ : ∃ W0, W0 = ((w.alloc (.cells #[.bool s, .slice A n c, .slice D m k] 31)).alloc (.cells #[.bool false, .slice none 0 0, .slice none 0 0] 31)) := ⟨_, rfl⟩
  have hb0 : Below w.heap.size w W0 := by rw [hW0]; exact below_alloc (below_new _ _) _
  have kx : Box W0 (w.heap.size) 31 #[.bool s, .slice A n c, .slice D m k] := by rw [hW0]; exact (Box.last _ _ _ rfl).alloc _
  have kr : Box W0 (w.heap.size + 1) 31 #[.bool false, .slice none 0 0, .slice none 0 0] := by rw [hW0]; exact Box.last _ _ _ (alloc_size _ _).symm
  have hs0 : W0.heap.size = w.heap.size + 2 := by rw [hW0, alloc_size, alloc_size]
  have HX := hide kx
  have HRR := hide kr
  have RX := Rx.below (hb0.mono hB)
  have RD := Rd'.below (hb0.mono hB)
  have HC1 := hide (fun (W : World) (h : Below W0.heap.size W0 W) => impl_BigIntNeg W B (by have := h.size; omega) s A n c xs (RX.below (h.mono (by omega))))
  have HC2 := hide (fun (W : World) (h : Below W0.heap.size W0 W) => impl_widenedSame W B (by have := h.size; omega) D m k ds (RD.below (h.mono (by omega))) hl)
  clear RX RD kx kr hl
  obtain ⟨a0, a1, a2⟩ := HX.out.cells3
  have HS0 : Hid (Below W0.heap.size W0 W0.drew) := (Below.refl _ _).drew
  have HKS := hide (fun (W : World) (hq : Below W0.heap.size W0 W) => (⟨(HX.out.below hq HX.out.lt).cell 0, (HX.out.below hq HX.out.lt).cell 1, (HX.out.below hq HX.out.lt).cell 2⟩ : W.cell? ⟨w.heap.size, 0, none⟩ = some (.bool s) ∧ W.cell? ⟨w.heap.size, 1, none⟩ = some (.slice A n c) ∧ W.cell? ⟨w.heap.size, 2, none⟩ = some (.slice D m k)))
  have HKR := hide (fun (W : World) (hq : Below W0.heap.size W0 W) => (⟨(HRR.out.below hq HRR.out.lt).cell 0, (HRR.out.below hq HRR.out.lt).cell 1, (HRR.out.below hq HRR.out.lt).cell 2, (HRR.out.below hq HRR.out.lt).frozen 0, (HRR.out.below hq HRR.out.lt).frozen 1, (HRR.out.below hq HRR.out.lt).frozen 2⟩ : W.cell? ⟨w.heap.size + 1, 0, none⟩ = some (.bool false) ∧ W.cell? ⟨w.heap.size + 1, 1, none⟩ = some (.slice none 0 0) ∧ W.cell? ⟨w.heap.size + 1, 2, none⟩ = some (.slice none 0 0) ∧ W.frozen? ⟨w.heap.size + 1, 0, none⟩ = false ∧ W.frozen? ⟨w.heap.size + 1, 1, none⟩ = false ∧ W.frozen? ⟨w.heap.size + 1, 2, none⟩ = false))
  have HKT := hide (fun (W : World) (hq : Below W0.heap.size W0 W) (x y z : Value) => (⟨(((((HX.out.below hq HX.out.lt).setv (show w.heap.size ≠ w.heap.size + 1 by omega) 0 x).setv (show w.heap.size ≠ w.heap.size + 1 by omega) 1 y).setv (show w.heap.size ≠ w.heap.size + 1 by omega) 2 z)).cell 0, (((((HX.out.below hq HX.out.lt).setv (show w.heap.size ≠ w.heap.size + 1 by omega) 0 x).setv (show w.heap.size ≠ w.heap.size + 1 by omega) 1 y).setv (show w.heap.size ≠ w.heap.size + 1 by omega) 2 z)).cell 1, (((((HX.out.below hq HX.out.lt).setv (show w.heap.size ≠ w.heap.size + 1 by omega) 0 x).setv (show w.heap.size ≠ w.heap.size + 1 by omega) 1 y).setv (show w.heap.size ≠ w.heap.size + 1 by omega) 2 z)).cell 2⟩ : (((W.setCell ⟨w.heap.size + 1, 0, none⟩ x).setCell ⟨w.heap.size + 1, 1, none⟩ y).setCell ⟨w.heap.size + 1, 2, none⟩ z).cell? ⟨w.heap.size, 0, none⟩ = some (.bool s) ∧ (((W.setCell ⟨w.heap.size + 1, 0, none⟩ x).setCell ⟨w.heap.size + 1, 1, none⟩ y).setCell ⟨w.heap.size + 1, 2, none⟩ z).cell? ⟨w.heap.size, 1, none⟩ = some (.slice A n c) ∧ (((W.setCell ⟨w.heap.size + 1, 0, none⟩ x).setCell ⟨w.heap.size + 1, 1, none⟩ y).setCell ⟨w.heap.size + 1, 2, none⟩ z).cell? ⟨w.heap.size, 2, none⟩ = some (.slice D m k)))
  go_enter Try.func76, Try.ntmps76
  go_upto_region 1 with fail
  rw [← hW0]
  clear hW0
  go_region_held3 (fun w' => w'.cell? ⟨w.heap.size, 0, none⟩ = some (.bool s) ∧ w'.cell? ⟨w.heap.size, 1, none⟩ = some (.slice A n c) ∧ w'.cell? ⟨w.heap.size, 2, none⟩ = some (.slice D m k))
      (first | (with_reducible exact HKT.out _ HS2.out _ _ _) | (with_reducible exact HKS.out _ HS2.out) | (with_reducible exact HKS.out _ HS1.out) | (with_reducible exact HKS.out _ HS0.out))
      (first
        | (go_at_call 64; refine (HC1.out _ HS0.out).mono ?_; rintro e w1 ⟨v1, rfl, o1, hb1⟩; obtain ⟨A1, c1, rfl⟩ := o1.form; have HS1 := hide (below_then HS0.out hb1))
        | (go_at_call 111; refine (HC2.out _ HS1.out).mono ?_; rintro e w2 ⟨v2, rfl, o2, hb2⟩; obtain ⟨A2, c2, rfl⟩ := o2.form; have HS2 := hide (below_then HS1.out hb2); obtain ⟨z0, z1, z2, z3, z4, z5⟩ := HKR.out _ HS2.out))
  have kr2 := HRR.out.below HS2.out HRR.out.lt
  have p2 := Pair.of o1 o2 hb2 (Nat.le_refl _) hb1.size
  have HO := hide (ret_rat kr2 p2 (below_then hb0 HS2.out) (x := (negZ s xs).1) (show w.heap.size ≤ w.heap.size + 1 by omega) (show w.heap.size + 1 < W0.heap.size by omega))
  clear o1 o2 hb1 hb2 z0 z1 z2 z3 z4 z5 kr2 p2
  go_wp2_with fail
  refine bodyPost_ret (results_cell_row rfl _ _ (w.heap.size + 1) _ #[.bool (negZ s xs).1, .slice A1 (negZ s xs).2.length c1, .slice A2 ds.length c2] (0, 0) _ rfl HO.out.1 Try.underlying31 rfl Try.sizeRat) rfl ?_
  exact ⟨_, _, rfl, HO.out.2.1, HO.out.2.2⟩
set_option maxHeartbeats 3200000 in
theorem impl_ratCopied (w : World) (B : Nat) (hB : B ≤ w.heap.size) (s : Bool) (A : Option Addr) (n c : Nat) (xs : List Int) (Rx : RdI w B A n xs) (D : Option Addr) (m k : Nat) (ds : List Int) (Rd' : RdI w B D m ds) (hln : n ≤ 1000000) (hl : m ≤ 1000000) :
    Calls Try.prog 115 #[.agg #[.bool s, .slice A n c, .slice D m k]] w fun e w' => RatRes 3 w w' e ((s, xs), ds) := by
  obtain ⟨W0, hW0⟩ : ∃ W0, W0 = ((w.alloc (.cells #[.bool s, .slice A n c, .slice D m k] 31)).alloc (.cells #[.bool false, .slice none 0 0, .slice none 0 0] 31)) := ⟨_, rfl⟩
  have hb0 : Below w.heap.size w W0 := by rw [hW0]; exact below_alloc (below_new _ _) _
  have kx : Box W0 (w.heap.size) 31 #[.bool s, .slice A n c, .slice D m k] := by rw [hW0]; exact (Box.last _ _ _ rfl).alloc _
  have kr : Box W0 (w.heap.size + 1) 31 #[.bool false, .slice none 0 0, .slice none 0 0] := by rw [hW0]; exact Box.last _ _ _ (alloc_size _ _).symm
  have hs0 : W0.heap.size = w.heap.size + 2 := by rw [hW0, alloc_size, alloc_size]
  have HX := hide kx
  have HRR := hide kr
  have RX := Rx.below (hb0.mono hB)
  have RD := Rd'.below (hb0.mono hB)
  have HC1 := hide (fun (W : World) (h : Below W0.heap.size W0 W) => impl_widenedSame W B (by have := h.size; omega) A n c xs (RX.below (h.mono (by omega))) hln)
  have HC2 := hide (fun (W : World) (h : Below W0.heap.size W0 W) => impl_widenedSame W B (by have := h.size; omega) D m k ds (RD.below (h.mono (by omega))) hl)
  clear RX RD kx kr hl hln
  obtain ⟨a0, a1, a2⟩ := HX.out.cells3
  have HS0 : Hid (Below W0.heap.size W0 W0.drew) := (Below.refl _ _).drew
  have HKS := hide (fun (W : World) (hq : Below W0.heap.size W0 W) => (⟨(HX.out.below hq HX.out.lt).cell 0, (HX.out.below hq HX.out.lt).cell 1, (HX.out.below hq HX.out.lt).cell 2⟩ : W.cell? ⟨w.heap.size, 0, none⟩ = some (.bool s) ∧ W.cell? ⟨w.heap.size, 1, none⟩ = some (.slice A n c) ∧ W.cell? ⟨w.heap.size, 2, none⟩ = some (.slice D m k)))
  have HKR := hide (fun (W : World) (hq : Below W0.heap.size W0 W) => (⟨(HRR.out.below hq HRR.out.lt).cell 0, (HRR.out.below hq HRR.out.lt).cell 1, (HRR.out.below hq HRR.out.lt).cell 2, (HRR.out.below hq HRR.out.lt).frozen 0, (HRR.out.below hq HRR.out.lt).frozen 1, (HRR.out.below hq HRR.out.lt).frozen 2⟩ : W.cell? ⟨w.heap.size + 1, 0, none⟩ = some (.bool false) ∧ W.cell? ⟨w.heap.size + 1, 1, none⟩ = some (.slice none 0 0) ∧ W.cell? ⟨w.heap.size + 1, 2, none⟩ = some (.slice none 0 0) ∧ W.frozen? ⟨w.heap.size + 1, 0, none⟩ = false ∧ W.frozen? ⟨w.heap.size + 1, 1, none⟩ = false ∧ W.frozen? ⟨w.heap.size + 1, 2, none⟩ = false))
  have HKT := hide (fun (W : World) (hq : Below W0.heap.size W0 W) (x y z : Value) => (⟨(((((HX.out.below hq HX.out.lt).setv (show w.heap.size ≠ w.heap.size + 1 by omega) 0 x).setv (show w.heap.size ≠ w.heap.size + 1 by omega) 1 y).setv (show w.heap.size ≠ w.heap.size + 1 by omega) 2 z)).cell 0, (((((HX.out.below hq HX.out.lt).setv (show w.heap.size ≠ w.heap.size + 1 by omega) 0 x).setv (show w.heap.size ≠ w.heap.size + 1 by omega) 1 y).setv (show w.heap.size ≠ w.heap.size + 1 by omega) 2 z)).cell 1, (((((HX.out.below hq HX.out.lt).setv (show w.heap.size ≠ w.heap.size + 1 by omega) 0 x).setv (show w.heap.size ≠ w.heap.size + 1 by omega) 1 y).setv (show w.heap.size ≠ w.heap.size + 1 by omega) 2 z)).cell 2⟩ : (((W.setCell ⟨w.heap.size + 1, 0, none⟩ x).setCell ⟨w.heap.size + 1, 1, none⟩ y).setCell ⟨w.heap.size + 1, 2, none⟩ z).cell? ⟨w.heap.size, 0, none⟩ = some (.bool s) ∧ (((W.setCell ⟨w.heap.size + 1, 0, none⟩ x).setCell ⟨w.heap.size + 1, 1, none⟩ y).setCell ⟨w.heap.size + 1, 2, none⟩ z).cell? ⟨w.heap.size, 1, none⟩ = some (.slice A n c) ∧ (((W.setCell ⟨w.heap.size + 1, 0, none⟩ x).setCell ⟨w.heap.size + 1, 1, none⟩ y).setCell ⟨w.heap.size + 1, 2, none⟩ z).cell? ⟨w.heap.size, 2, none⟩ = some (.slice D m k)))
  go_enter Try.func115, Try.ntmps115
  go_upto_region 1 with fail
  rw [← hW0]
  clear hW0
  go_region_held3 (fun w' => w'.cell? ⟨w.heap.size, 0, none⟩ = some (.bool s) ∧ w'.cell? ⟨w.heap.size, 1, none⟩ = some (.slice A n c) ∧ w'.cell? ⟨w.heap.size, 2, none⟩ = some (.slice D m k))
      (first | (with_reducible exact HKT.out _ HS2.out _ _ _) | (with_reducible exact HKS.out _ HS2.out) | (with_reducible exact HKS.out _ HS1.out) | (with_reducible exact HKS.out _ HS0.out))
      (first
        | (go_at_call_has 111 A; refine (HC1.out _ HS0.out).mono ?_; rintro e w1 ⟨v1, rfl, o1, hb1⟩; obtain ⟨A1, c1, rfl⟩ := o1.form; have HS1 := hide (below_then HS0.out hb1))
        | (go_at_call_has 111 D; refine (HC2.out _ HS1.out).mono ?_; rintro e w2 ⟨v2, rfl, o2, hb2⟩; obtain ⟨A2, c2, rfl⟩ := o2.form; have HS2 := hide (below_then HS1.out hb2); obtain ⟨z0, z1, z2, z3, z4, z5⟩ := HKR.out _ HS2.out))
  have kr2 := HRR.out.below HS2.out HRR.out.lt
  have p2 := Pair.of o1 o2 hb2 (Nat.le_refl _) hb1.size
  have HO := hide (ret_rat kr2 p2 (below_then hb0 HS2.out) (x := s) (show w.heap.size ≤ w.heap.size + 1 by omega) (show w.heap.size + 1 < W0.heap.size by omega))
  clear o1 o2 hb1 hb2 z0 z1 z2 z3 z4 z5 kr2 p2
  go_wp2_with fail
  refine bodyPost_ret (results_cell_row rfl _ _ (w.heap.size + 1) _ #[.bool s, .slice A1 xs.length c1, .slice A2 ds.length c2] (0, 0) _ rfl HO.out.1 Try.underlying31 rfl Try.sizeRat) rfl ?_
  exact ⟨_, _, rfl, HO.out.2.1, HO.out.2.2⟩
end Go.Proofs.Ytiiedfhcandjdaa
