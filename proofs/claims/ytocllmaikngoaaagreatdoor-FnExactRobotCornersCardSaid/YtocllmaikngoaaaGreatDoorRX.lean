/-
  The texts RatI7, RatI8, put together; each has its own heading below. No condition of ours.
-/
import Derived.Test.YtocllmaikngoaaaGreatDoorRJ
import Derived.Test.YtocllmaikngoaaaGreatDoorIA
import Derived.Test.YtocllmaikngoaaaGreatDoorBX
import Derived.Deep.CutRange
/-
  The program's fractions: contracts (7): plus, minus.
-/



namespace Go.Proofs.YtocllmaikngoaaaGreatDoor
open Go.RowKit
set_option linter.unusedVariables false
theorem rdI_alloc {w : World} {A : Option Addr} {n : Nat} {xs : List Int} (h : RdI w w.heap.size A n xs) (o : Obj) : RdI (w.alloc o) (w.alloc o).heap.size A n xs := ⟨h.1, rd_alloc h.2.1 o, h.2.2⟩
set_option maxHeartbeats 6400000 in
theorem impl_ratPlus (w : World) (B : Nat) (hB : B ≤ w.heap.size) (s : Bool) (A : Option Addr) (n c : Nat) (xs : List Int) (Rx : RdI w B A n xs) (D : Option Addr) (m k : Nat) (ds : List Int) (Rd' : RdI w B D m ds) (hr : ratB s xs ds = true) (t : Bool) (A' : Option Addr) (n' c' : Nat) (ys : List Int) (Ry : RdI w B A' n' ys) (D' : Option Addr) (m' k' : Nat) (es : List Int) (Re' : RdI w B D' m' es) (hq : ratB t ys es = true) :
    Calls Tryz.prog 114 #[.agg #[.bool s, .slice A n c, .slice D m k], .agg #[.bool t, .slice A' n' c', .slice D' m' k']] w fun e w' => RatRes 3 w w' e (lowR (zv s xs * val es + zv t ys * val ds) (natV ds * natV es)) := by
  obtain ⟨g1, g2, g3, hz⟩ := plus_ok hr hq
  rw [← hz]
  clear hz hr hq
  obtain ⟨W0, hW0⟩ : ∃ W0, W0 = (((w.alloc (.cells #[.bool s, .slice A n c, .slice D m k] 47)).alloc (.cells #[.bool t, .slice A' n' c', .slice D' m' k'] 47)).alloc (.cells #[.bool false, .slice none 0 0, .slice none 0 0] 47)) := ⟨_, rfl⟩
  have hb0 : Below w.heap.size w W0 := by rw [hW0]; exact below_alloc (below_alloc (below_new _ _) _) _
  have kx : Box W0 (w.heap.size) 47 #[.bool s, .slice A n c, .slice D m k] := by rw [hW0]; exact ((Box.last _ _ _ rfl).alloc _).alloc _
  have ky : Box W0 (w.heap.size + 1) 47 #[.bool t, .slice A' n' c', .slice D' m' k'] := by rw [hW0]; exact (Box.last _ _ _ (alloc_size _ _).symm).alloc _
  have kr : Box W0 (w.heap.size + 2) 47 #[.bool false, .slice none 0 0, .slice none 0 0] := by rw [hW0]; exact Box.last _ _ _ (by rw [alloc_size, alloc_size])
  have hs0 : W0.heap.size = w.heap.size + 3 := by rw [hW0, alloc_size, alloc_size, alloc_size]
  have HX := hide kx
  have HY := hide ky
  have HRR := hide kr
  have RX := Rx.below (hb0.mono hB)
  have RD := Rd'.below (hb0.mono hB)
  have RY := Ry.below (hb0.mono hB)
  have RE := Re'.below (hb0.mono hB)
  have HC1 := hide (fun (W : World) (h : Below W0.heap.size W0 W) => impl_numeratorOverBoth W B (by have := h.size; omega) s A n c xs (RX.below (h.mono (by omega))) D m k ds (RD.below (h.mono (by omega))) t A' n' c' ys (RY.below (h.mono (by omega))) D' m' k' es (RE.below (h.mono (by omega))))
  have HC2 := hide (fun (W : World) (h : Below W0.heap.size W0 W) => impl_numeratorOverBoth W B (by have := h.size; omega) t A' n' c' ys (RY.below (h.mono (by omega))) D' m' k' es (RE.below (h.mono (by omega))) s A n c xs (RX.below (h.mono (by omega))) D m k ds (RD.below (h.mono (by omega))))
  have HC3 := hide (fun (W : World) (A1 A2 : Option Addr) (c1 c2 : Nat) (R1 : RdI W W.heap.size A1 (mulZ s xs false es).2.length (mulZ s xs false es).2) (R2 : RdI W W.heap.size A2 (mulZ t ys false ds).2.length (mulZ t ys false ds).2) => impl_BigIntAdd W W.heap.size (Nat.le_refl _) (mulZ s xs false es).1 A1 _ c1 (mulZ s xs false es).2 R1 (mulZ t ys false ds).1 A2 _ c2 (mulZ t ys false ds).2 R2)
  have HL1 := hide (mulZ_len s xs false es)
  have HL2 := hide (mulZ_len t ys false ds)
  have HQ1 := hide (mulZ_limbs s xs false es)
  have HQ2 := hide (mulZ_limbs t ys false ds)
  have HRD := hide RD
  have HRE := hide RE
  clear RX RD RY RE kx ky kr
  obtain ⟨a0, a1, a2⟩ := HX.out.cells3
  obtain ⟨b0, b1, b2⟩ := HY.out.cells3
  have HKS := hide (fun (W : World) (hq : Below W0.heap.size W0 W) => (⟨(HX.out.below hq HX.out.lt).cell 0, (HX.out.below hq HX.out.lt).cell 1, (HX.out.below hq HX.out.lt).cell 2, (HY.out.below hq HY.out.lt).cell 0, (HY.out.below hq HY.out.lt).cell 1, (HY.out.below hq HY.out.lt).cell 2⟩ : W.cell? ⟨w.heap.size, 0, none⟩ = some (.bool s) ∧ W.cell? ⟨w.heap.size, 1, none⟩ = some (.slice A n c) ∧ W.cell? ⟨w.heap.size, 2, none⟩ = some (.slice D m k) ∧ W.cell? ⟨w.heap.size + 1, 0, none⟩ = some (.bool t) ∧ W.cell? ⟨w.heap.size + 1, 1, none⟩ = some (.slice A' n' c') ∧ W.cell? ⟨w.heap.size + 1, 2, none⟩ = some (.slice D' m' k')))
  have HS0 : Hid (Below W0.heap.size W0 W0.drew) := (Below.refl _ _).drew
  have HS0a : Hid (Below W0.heap.size W0 (W0.alloc (.cells #[.bool false, .slice none 0 0] 45)).drew) := (below_new _ _).drew
  have HSE := hide hs0
  clear hs0
  go_enter Tryz.func114, Tryz.ntmps114
  go_upto_region 1 with fail
  rw [← hW0]
  clear hW0
  go_cut [5] from 6 to 20 (fun sx wx => VarOk W0 wx sx (addZ (mulZ s xs false es).1 (mulZ s xs false es).2 (mulZ t ys false ds).1 (mulZ t ys false ds).2).1 (addZ (mulZ s xs false es).1 (mulZ s xs false es).2 (mulZ t ys false ds).1 (mulZ t ys false ds).2).2 45 3)
  case first =>
    go_region_held3 (fun w' => w'.cell? ⟨w.heap.size, 0, none⟩ = some (.bool s) ∧ w'.cell? ⟨w.heap.size, 1, none⟩ = some (.slice A n c) ∧ w'.cell? ⟨w.heap.size, 2, none⟩ = some (.slice D m k) ∧ w'.cell? ⟨w.heap.size + 1, 0, none⟩ = some (.bool t) ∧ w'.cell? ⟨w.heap.size + 1, 1, none⟩ = some (.slice A' n' c') ∧ w'.cell? ⟨w.heap.size + 1, 2, none⟩ = some (.slice D' m' k'))
        (first | (with_reducible exact HKS.out _ (below_set2 HS3.out HS2.out.size _ _)) | (with_reducible exact HKS.out _ (below_set2 HS3.out HS1.out.size _ _)) | (with_reducible exact HKS.out _ (below_set2 HS3.out (Nat.le_refl _) _ _)) | (with_reducible exact HKS.out _ HS3.out) | (with_reducible exact HKS.out _ (below_alloc HS3.out _)) | (with_reducible exact HKS.out _ HS2.out) | (with_reducible exact HKS.out _ (below_alloc HS2.out _)) | (with_reducible exact HKS.out _ HS1.out) | (with_reducible exact HKS.out _ (below_alloc HS1.out _)) | (with_reducible exact HKS.out _ HS0.out) | (with_reducible exact HKS.out _ HS0a.out))
        (first
          | (go_at_call_has 156 [Value.agg #[Value.bool s, Value.slice A n c, Value.slice D m k], Value.agg #[Value.bool t, Value.slice A' n' c', Value.slice D' m' k']]; refine (HC1.out _ (by with_reducible first | exact HS0.out | exact HS0a.out)).mono ?_; rintro e u1 ⟨v1, rfl, e1, hb1⟩; obtain ⟨A1, c1, rfl⟩ := e1.form; have hz1 := hb1.size; have HS1 := hide (below_then (by with_reducible first | exact HS0.out | exact HS0a.out) hb1))
          | (go_at_call_has 156 [Value.agg #[Value.bool t, Value.slice A' n' c', Value.slice D' m' k'], Value.agg #[Value.bool s, Value.slice A n c, Value.slice D m k]]; refine (HC2.out _ (by with_reducible first | exact HS1.out | exact below_alloc HS1.out _)).mono ?_; rintro e u2 ⟨v2, rfl, e2, hb2⟩; obtain ⟨A2, c2, rfl⟩ := e2.form; have hz2 := hb2.size; have HS2 := hide (below_then (by with_reducible first | exact HS1.out | exact below_alloc HS1.out _) hb2); have r1 : RdI u2 u2.heap.size A1 (mulZ s xs false es).2.length (mulZ s xs false es).2 := (by first | (with_reducible exact RdI.of_own (e1.below hb2 (Nat.le_refl _)) HL1.out HQ1.out) | (with_reducible exact RdI.of_own ((e1.below (below_new u1 _) (Nat.le_refl _)).below hb2 (by rw [alloc_size]; omega)) HL1.out HQ1.out)); have r2 := RdI.of_own e2 HL2.out HQ2.out)
          | (go_at_call 155; refine (HC3.out _ _ _ _ _ (by first | (with_reducible exact r1) | (with_reducible exact rdI_alloc r1 _)) (by first | (with_reducible exact r2) | (with_reducible exact rdI_alloc r2 _))).mono ?_; rintro e u3 ⟨v3, rfl, e3, hb3⟩; obtain ⟨A3, c3, rfl⟩ := e3.form; have hz3 := hb3.size; have HS3 := hide (below_then (by with_reducible first | exact HS2.out | exact below_alloc HS2.out _) hb3); first | (have kz := kz_new hb3; obtain ⟨t0, t1, z0, z1⟩ := kz.facts) | (have kz := (kz_new hb2).below hb3 (kz_new hb2).lt; obtain ⟨t0, t1, z0, z1⟩ := kz.facts) | (have kz := ((kz_drew hb1).below hb2 (kz_drew hb1).lt).below hb3 ((kz_drew hb1).below hb2 (kz_drew hb1).lt).lt; obtain ⟨t0, t1, z0, z1⟩ := kz.facts) | skip))
    all_goals
      go_wp2_with fail
      go_meet
      case rel =>
        try simp only [drew_size, alloc_size] at hz1 hz2 hz3
        first
          | exact varok_set kz HS3.out e3 (by (try simp only [alloc_size]); omega) (Nat.le_refl _) (by omega) (by (try simp only [alloc_size]); omega)
          | exact varok_last HS3.out e3 (by (try simp only [alloc_size]); omega) (Nat.le_refl _)
  case rest =>
    obtain ⟨g, A1, c1, lo, hi, rfl, ks, os, hlo, hhi, hgg, hgl, hbS⟩ := hcut
    have hss := hbS.size
    have hs0 := HSE.out
    have hb1' := below_then hb0 hbS
    have HX1 := hide (HX.out.below hbS HX.out.lt)
    have HY1 := hide (HY.out.below hbS HY.out.lt)
    have HR1 := hide (HRR.out.below hbS HRR.out.lt)
    have HS := hide ks
    have HOS := hide os
    have HHI := hide hhi
    clear HKS HS0 HS0a HC1 HC2 HC3 HL1 HL2 HQ1 HQ2 a0 a1 a2 b0 b1 b2
    have HC1 := hide (fun (W : World) (h : Below wc.heap.size wc W) => impl_NatMul W B (by have := h.size; omega) D m k ds ((HRD.out.below (hbS.mono (by omega))).below (h.mono (by omega))) D' m' k' es ((HRE.out.below (hbS.mono (by omega))).below (h.mono (by omega))))
    have HC3 := hide (fun (W : World) (A1 A2 : Option Addr) (c1 c2 : Nat) (R1 : RdI W W.heap.size A1 (addZ (mulZ s xs false es).1 (mulZ s xs false es).2 (mulZ t ys false ds).1 (mulZ t ys false ds).2).2.length (addZ (mulZ s xs false es).1 (mulZ s xs false es).2 (mulZ t ys false ds).1 (mulZ t ys false ds).2).2) (R2 : RdI W W.heap.size A2 (mulL ds es).length (mulL ds es)) => impl_reduced W W.heap.size (Nat.le_refl _) (addZ (mulZ s xs false es).1 (mulZ s xs false es).2 (mulZ t ys false ds).1 (mulZ t ys false ds).2).1 A1 _ c1 (addZ (mulZ s xs false es).1 (mulZ s xs false es).2 (mulZ t ys false ds).1 (mulZ t ys false ds).2).2 R1 g1 A2 _ c2 (mulL ds es) R2 g2 g3)
    have HL1 := hide (addZ_len (mulZ s xs false es).1 (mulZ s xs false es).2 (mulZ t ys false ds).1 (mulZ t ys false ds).2)
    have HQ1 := hide (addZ_limbs (mulZ s xs false es).1 (mulZ s xs false es).2 (mulZ t ys false ds).1 (mulZ t ys false ds).2)
    have HL2 := hide (mulL_len ds es)
    have HQ2 := hide (mulL_limbs ds es)
    obtain ⟨a0, a1, a2⟩ := HX1.out.cells3
    obtain ⟨b0, b1, b2⟩ := HY1.out.cells3
    obtain ⟨q0, q1⟩ := HS.out.cells2
    clear ks os g1 g2 g3 hlo hgl
    have HS0 : Hid (Below wc.heap.size wc wc.drew) := (Below.refl _ _).drew
    have HKS := hide (fun (W : World) (hq : Below wc.heap.size wc W) => (⟨(HX1.out.below hq HX1.out.lt).cell 0, (HX1.out.below hq HX1.out.lt).cell 1, (HX1.out.below hq HX1.out.lt).cell 2, (HY1.out.below hq HY1.out.lt).cell 0, (HY1.out.below hq HY1.out.lt).cell 1, (HY1.out.below hq HY1.out.lt).cell 2, (HS.out.below hq HS.out.lt).cell 0, (HS.out.below hq HS.out.lt).cell 1⟩ : W.cell? ⟨w.heap.size, 0, none⟩ = some (.bool s) ∧ W.cell? ⟨w.heap.size, 1, none⟩ = some (.slice A n c) ∧ W.cell? ⟨w.heap.size, 2, none⟩ = some (.slice D m k) ∧ W.cell? ⟨w.heap.size + 1, 0, none⟩ = some (.bool t) ∧ W.cell? ⟨w.heap.size + 1, 1, none⟩ = some (.slice A' n' c') ∧ W.cell? ⟨w.heap.size + 1, 2, none⟩ = some (.slice D' m' k') ∧ W.cell? ⟨g, 0, none⟩ = some (.bool (addZ (mulZ s xs false es).1 (mulZ s xs false es).2 (mulZ t ys false ds).1 (mulZ t ys false ds).2).1) ∧ W.cell? ⟨g, 1, none⟩ = some (.slice A1 (addZ (mulZ s xs false es).1 (mulZ s xs false es).2 (mulZ t ys false ds).1 (mulZ t ys false ds).2).2.length c1)))
    have HKR := hide (fun (W : World) (hq : Below wc.heap.size wc W) => (⟨(HR1.out.below hq HR1.out.lt).cell 0, (HR1.out.below hq HR1.out.lt).cell 1, (HR1.out.below hq HR1.out.lt).cell 2, (HR1.out.below hq HR1.out.lt).frozen 0, (HR1.out.below hq HR1.out.lt).frozen 1, (HR1.out.below hq HR1.out.lt).frozen 2⟩ : W.cell? ⟨w.heap.size + 2, 0, none⟩ = some (.bool false) ∧ W.cell? ⟨w.heap.size + 2, 1, none⟩ = some (.slice none 0 0) ∧ W.cell? ⟨w.heap.size + 2, 2, none⟩ = some (.slice none 0 0) ∧ W.frozen? ⟨w.heap.size + 2, 0, none⟩ = false ∧ W.frozen? ⟨w.heap.size + 2, 1, none⟩ = false ∧ W.frozen? ⟨w.heap.size + 2, 2, none⟩ = false))
    have HKT := hide (fun (W : World) (hq : Below wc.heap.size wc W) (x y z : Value) => (⟨(((((HX1.out.below hq HX1.out.lt).setv (show w.heap.size ≠ w.heap.size + 2 by omega) 0 x).setv (show w.heap.size ≠ w.heap.size + 2 by omega) 1 y).setv (show w.heap.size ≠ w.heap.size + 2 by omega) 2 z)).cell 0, (((((HX1.out.below hq HX1.out.lt).setv (show w.heap.size ≠ w.heap.size + 2 by omega) 0 x).setv (show w.heap.size ≠ w.heap.size + 2 by omega) 1 y).setv (show w.heap.size ≠ w.heap.size + 2 by omega) 2 z)).cell 1, (((((HX1.out.below hq HX1.out.lt).setv (show w.heap.size ≠ w.heap.size + 2 by omega) 0 x).setv (show w.heap.size ≠ w.heap.size + 2 by omega) 1 y).setv (show w.heap.size ≠ w.heap.size + 2 by omega) 2 z)).cell 2, (((((HY1.out.below hq HY1.out.lt).setv (show w.heap.size + 1 ≠ w.heap.size + 2 by omega) 0 x).setv (show w.heap.size + 1 ≠ w.heap.size + 2 by omega) 1 y).setv (show w.heap.size + 1 ≠ w.heap.size + 2 by omega) 2 z)).cell 0, (((((HY1.out.below hq HY1.out.lt).setv (show w.heap.size + 1 ≠ w.heap.size + 2 by omega) 0 x).setv (show w.heap.size + 1 ≠ w.heap.size + 2 by omega) 1 y).setv (show w.heap.size + 1 ≠ w.heap.size + 2 by omega) 2 z)).cell 1, (((((HY1.out.below hq HY1.out.lt).setv (show w.heap.size + 1 ≠ w.heap.size + 2 by omega) 0 x).setv (show w.heap.size + 1 ≠ w.heap.size + 2 by omega) 1 y).setv (show w.heap.size + 1 ≠ w.heap.size + 2 by omega) 2 z)).cell 2, (((((HS.out.below hq HS.out.lt).setv (show g ≠ w.heap.size + 2 by omega) 0 x).setv (show g ≠ w.heap.size + 2 by omega) 1 y).setv (show g ≠ w.heap.size + 2 by omega) 2 z)).cell 0, (((((HS.out.below hq HS.out.lt).setv (show g ≠ w.heap.size + 2 by omega) 0 x).setv (show g ≠ w.heap.size + 2 by omega) 1 y).setv (show g ≠ w.heap.size + 2 by omega) 2 z)).cell 1⟩ : (((W.setCell ⟨w.heap.size + 2, 0, none⟩ x).setCell ⟨w.heap.size + 2, 1, none⟩ y).setCell ⟨w.heap.size + 2, 2, none⟩ z).cell? ⟨w.heap.size, 0, none⟩ = some (.bool s) ∧ (((W.setCell ⟨w.heap.size + 2, 0, none⟩ x).setCell ⟨w.heap.size + 2, 1, none⟩ y).setCell ⟨w.heap.size + 2, 2, none⟩ z).cell? ⟨w.heap.size, 1, none⟩ = some (.slice A n c) ∧ (((W.setCell ⟨w.heap.size + 2, 0, none⟩ x).setCell ⟨w.heap.size + 2, 1, none⟩ y).setCell ⟨w.heap.size + 2, 2, none⟩ z).cell? ⟨w.heap.size, 2, none⟩ = some (.slice D m k) ∧ (((W.setCell ⟨w.heap.size + 2, 0, none⟩ x).setCell ⟨w.heap.size + 2, 1, none⟩ y).setCell ⟨w.heap.size + 2, 2, none⟩ z).cell? ⟨w.heap.size + 1, 0, none⟩ = some (.bool t) ∧ (((W.setCell ⟨w.heap.size + 2, 0, none⟩ x).setCell ⟨w.heap.size + 2, 1, none⟩ y).setCell ⟨w.heap.size + 2, 2, none⟩ z).cell? ⟨w.heap.size + 1, 1, none⟩ = some (.slice A' n' c') ∧ (((W.setCell ⟨w.heap.size + 2, 0, none⟩ x).setCell ⟨w.heap.size + 2, 1, none⟩ y).setCell ⟨w.heap.size + 2, 2, none⟩ z).cell? ⟨w.heap.size + 1, 2, none⟩ = some (.slice D' m' k') ∧ (((W.setCell ⟨w.heap.size + 2, 0, none⟩ x).setCell ⟨w.heap.size + 2, 1, none⟩ y).setCell ⟨w.heap.size + 2, 2, none⟩ z).cell? ⟨g, 0, none⟩ = some (.bool (addZ (mulZ s xs false es).1 (mulZ s xs false es).2 (mulZ t ys false ds).1 (mulZ t ys false ds).2).1) ∧ (((W.setCell ⟨w.heap.size + 2, 0, none⟩ x).setCell ⟨w.heap.size + 2, 1, none⟩ y).setCell ⟨w.heap.size + 2, 2, none⟩ z).cell? ⟨g, 1, none⟩ = some (.slice A1 (addZ (mulZ s xs false es).1 (mulZ s xs false es).2 (mulZ t ys false ds).1 (mulZ t ys false ds).2).2.length c1)))
    go_wp2_with fail
    go_region_held3 (fun w' => w'.cell? ⟨w.heap.size, 0, none⟩ = some (.bool s) ∧ w'.cell? ⟨w.heap.size, 1, none⟩ = some (.slice A n c) ∧ w'.cell? ⟨w.heap.size, 2, none⟩ = some (.slice D m k) ∧ w'.cell? ⟨w.heap.size + 1, 0, none⟩ = some (.bool t) ∧ w'.cell? ⟨w.heap.size + 1, 1, none⟩ = some (.slice A' n' c') ∧ w'.cell? ⟨w.heap.size + 1, 2, none⟩ = some (.slice D' m' k') ∧ w'.cell? ⟨g, 0, none⟩ = some (.bool (addZ (mulZ s xs false es).1 (mulZ s xs false es).2 (mulZ t ys false ds).1 (mulZ t ys false ds).2).1) ∧ w'.cell? ⟨g, 1, none⟩ = some (.slice A1 (addZ (mulZ s xs false es).1 (mulZ s xs false es).2 (mulZ t ys false ds).1 (mulZ t ys false ds).2).2.length c1))
        (first | (with_reducible exact HKT.out _ HS2.out _ _ _) | (with_reducible exact HKS.out _ HS2.out) | (with_reducible exact HKS.out _ HS1.out) | (with_reducible exact HKS.out _ HS0.out))
        (first
          | (go_at_call 154; refine (HC1.out _ HS0.out).mono ?_; rintro e w1 ⟨v2, rfl, o2, hb1⟩; obtain ⟨A2, c2, rfl⟩ := o2.form; have os2 := HOS.out.below (below_then HS0.out hb1) HHI.out; have r1 := RdI.of_own os2 HL1.out HQ1.out; have r2 := RdI.of_own o2 HL2.out HQ2.out; have HS1 := hide (below_then HS0.out hb1))
          | (go_at_call 152; refine (HC3.out _ _ _ _ _ r1 r2).mono ?_; rintro e w2 ⟨v3, d3, rfl, p3, hb2⟩; obtain ⟨A3, c3, K3, k3, rfl, rfl⟩ := p3.form; have HS2 := hide (below_then HS1.out hb2); obtain ⟨z0, z1, z2, z3, z4, z5⟩ := HKR.out _ HS2.out))
    have hz1 := hb1.size
    have kr3 := HR1.out.below HS2.out HR1.out.lt
    have HO := hide (ret_rat kr3 p3 (below_then hb1' HS2.out) (x := (lowR (zv (addZ (mulZ s xs false es).1 (mulZ s xs false es).2 (mulZ t ys false ds).1 (mulZ t ys false ds).2).1 (addZ (mulZ s xs false es).1 (mulZ s xs false es).2 (mulZ t ys false ds).1 (mulZ t ys false ds).2).2) (natV (mulL ds es))).1.1) (show w.heap.size ≤ w.heap.size + 2 by omega) (show w.heap.size + 2 < w1.heap.size by (try simp only [drew_size] at hz1); omega))
    clear o2 os2 r1 r2 p3 hb1 hb2 z0 z1 z2 z3 z4 z5 kr3 hz1
    go_wp2_with fail
    refine bodyPost_ret (results_cell_row rfl _ _ (w.heap.size + 2) _ #[.bool (lowR (zv (addZ (mulZ s xs false es).1 (mulZ s xs false es).2 (mulZ t ys false ds).1 (mulZ t ys false ds).2).1 (addZ (mulZ s xs false es).1 (mulZ s xs false es).2 (mulZ t ys false ds).1 (mulZ t ys false ds).2).2) (natV (mulL ds es))).1.1, .slice A3 (lowR (zv (addZ (mulZ s xs false es).1 (mulZ s xs false es).2 (mulZ t ys false ds).1 (mulZ t ys false ds).2).1 (addZ (mulZ s xs false es).1 (mulZ s xs false es).2 (mulZ t ys false ds).1 (mulZ t ys false ds).2).2) (natV (mulL ds es))).1.2.length c3, .slice K3 (lowR (zv (addZ (mulZ s xs false es).1 (mulZ s xs false es).2 (mulZ t ys false ds).1 (mulZ t ys false ds).2).1 (addZ (mulZ s xs false es).1 (mulZ s xs false es).2 (mulZ t ys false ds).1 (mulZ t ys false ds).2).2) (natV (mulL ds es))).2.length k3] (0, 0) _ rfl HO.out.1 Tryz.underlying47 rfl Tryz.sizeRat) rfl ?_
    exact ⟨_, _, rfl, HO.out.2.1, HO.out.2.2⟩
end Go.Proofs.YtocllmaikngoaaaGreatDoor

/-
  The program's fractions: contracts (8): smaller, greater, ifValid over each method, RatAdd .. RatMax.
-/

namespace Go.Proofs.YtocllmaikngoaaaGreatDoor
open Go.RowKit
set_option linter.unusedVariables false
theorem addR_ok {s t : Bool} {xs ds ys es : List Int} (h : ratB s xs ds = true) (k : ratB t ys es = true) : addR s xs ds t ys es = lowR (zv s xs * val es + zv t ys * val ds) (natV ds * natV es) := by rw [addR, h, k]; rfl
theorem addR_no {s t : Bool} {xs ds ys es : List Int} (h : ratB s xs ds = false ∨ ratB t ys es = false) : addR s xs ds t ys es = noR := by rw [addR, if_neg]; rcases h with h | h <;> simp [h]
set_option maxRecDepth 100000 in
set_option maxHeartbeats 3200000 in
theorem impl_ifValid_plus (w : World) (B : Nat) (hB : B ≤ w.heap.size) (s : Bool) (A : Option Addr) (n c : Nat) (xs : List Int) (Rx : RdI w B A n xs) (D : Option Addr) (m k : Nat) (ds : List Int) (Rd' : RdI w B D m ds) (t : Bool) (A' : Option Addr) (n' c' : Nat) (ys : List Int) (Ry : RdI w B A' n' ys) (D' : Option Addr) (m' k' : Nat) (es : List Int) (Re' : RdI w B D' m' es) :
    Calls Tryz.prog 112 #[.agg #[.bool s, .slice A n c, .slice D m k], .agg #[.bool t, .slice A' n' c', .slice D' m' k'], .func (.func 114) #[] #[]] w fun e w' => RatRes 3 w w' e (addR s xs ds t ys es) := by
  have HNO := hide (addR_no (s := s) (t := t) (xs := xs) (ds := ds) (ys := ys) (es := es))
  have HCO := hide (fun (W : World) (h : Below w.heap.size w W) (hr : ratB s xs ds = true) (hq : ratB t ys es = true) => (by rw [addR_ok hr hq]; exact impl_ratPlus W B (by have := h.size; omega) s A n c xs (Rx.below (h.mono hB)) D m k ds (Rd'.below (h.mono hB)) hr t A' n' c' ys (Ry.below (h.mono hB)) D' m' k' es (Re'.below (h.mono hB)) hq : Calls Tryz.prog 114 #[.agg #[.bool s, .slice A n c, .slice D m k], .agg #[.bool t, .slice A' n' c', .slice D' m' k']] W fun e w' => RatRes 3 W w' e (addR s xs ds t ys es)))
  generalize addR s xs ds t ys es = Z at HNO HCO ⊢
  obtain ⟨W0, hW0⟩ : ∃ W0, W0 = (((w.alloc (.cells #[.bool s, .slice A n c, .slice D m k] 47)).alloc (.cells #[.bool t, .slice A' n' c', .slice D' m' k'] 47)).alloc (.cells #[.bool false, .slice none 0 0, .slice none 0 0] 47)) := ⟨_, rfl⟩
  have hb0 : Below w.heap.size w W0 := by rw [hW0]; exact below_alloc (below_alloc (below_new _ _) _) _
  have kx : Box W0 (w.heap.size) 47 #[.bool s, .slice A n c, .slice D m k] := by rw [hW0]; exact ((Box.last _ _ _ rfl).alloc _).alloc _
  have ky : Box W0 (w.heap.size + 1) 47 #[.bool t, .slice A' n' c', .slice D' m' k'] := by rw [hW0]; exact (Box.last _ _ _ (alloc_size _ _).symm).alloc _
  have kr : Box W0 (w.heap.size + 2) 47 #[.bool false, .slice none 0 0, .slice none 0 0] := by rw [hW0]; exact Box.last _ _ _ (by rw [alloc_size, alloc_size])
  have hs0 : W0.heap.size = w.heap.size + 3 := by rw [hW0, alloc_size, alloc_size, alloc_size]
  go_enter Tryz.func112, Tryz.ntmps112
  go_upto_region 1 with fail
  rw [← hW0]
  clear hW0
  obtain ⟨a0, a1, a2⟩ := kx.cells3
  obtain ⟨b0, b1, b2⟩ := ky.cells3
  go_wp2_with fail
  refine (impl_ratValid W0 B (by omega) s A n c xs (Rx.below (hb0.mono hB)) D m k ds (Rd'.below (hb0.mono hB))).mono ?_
  rintro e w1 ⟨rfl, hb1⟩
  have kx1 := kx.below hb1 kx.lt
  have ky1 := ky.below hb1 ky.lt
  have kr1 := kr.below hb1 kr.lt
  have hs1 := hb1.size
  have hb1' := below_then hb0 hb1
  clear a0 a1 a2 b0 b1 b2 kx ky kr hb0 hb1
  by_cases hr : ratB s xs ds = true
  · rw [hr]
    obtain ⟨a0, a1, a2⟩ := kx1.cells3
    obtain ⟨b0, b1, b2⟩ := ky1.cells3
    go_wp2_with fail
    refine (impl_ratValid w1 B (by omega) t A' n' c' ys (Ry.below (hb1'.mono hB)) D' m' k' es (Re'.below (hb1'.mono hB))).mono ?_
    rintro e w2 ⟨rfl, hb2⟩
    have kx2 := kx1.below hb2 kx1.lt
    have ky2 := ky1.below hb2 ky1.lt
    have kr2 := kr1.below hb2 kr1.lt
    have hs2 := hb2.size
    have hb2' := below_then hb1' hb2
    clear a0 a1 a2 b0 b1 b2 kx1 ky1 kr1 hb1' hb2
    by_cases hq : ratB t ys es = true
    · rw [hq]
      obtain ⟨a0, a1, a2⟩ := kx2.cells3
      obtain ⟨b0, b1, b2⟩ := ky2.cells3
      have HCP := hide (HCO.out w2 hb2' hr hq)
      clear HCO HNO hr hq
      go_wp2_with fail
      refine (HCP.out).mono ?_
      rintro e w3 ⟨v3, d3, rfl, p3, hb3⟩
      obtain ⟨A3, c3, K3, k3, rfl, rfl⟩ := p3.form
      have kr3 := kr2.below hb3 kr2.lt
      have hb3' := below_then hb2' hb3
      obtain ⟨z0, z1, z2, z3, z4, z5⟩ := kr3.facts3
      have HO := hide (ret_rat kr3 p3 hb3' (x := Z.1.1) (show w.heap.size ≤ w.heap.size + 2 by omega) (by omega))
      clear kr3 p3 hb3' hb3 kr2 HCP
      go_wp2_with fail
      refine bodyPost_ret (results_cell_row rfl _ _ (w.heap.size + 2) _ #[.bool Z.1.1, .slice A3 Z.1.2.length c3, .slice K3 Z.2.length k3] (0, 0) _ rfl HO.out.1 Tryz.underlying47 rfl Tryz.sizeRat) rfl ?_
      exact ⟨_, _, rfl, HO.out.2.1, HO.out.2.2⟩
    · have hq : ratB t ys es = false := by simpa using hq
      have hz := HNO.out (.inr hq)
      subst hz
      rw [hq]
      clear HNO HCO
      have HO := hide (ret_rat0 (F := 3) kr2 hb2' (show w.heap.size ≤ w.heap.size + 2 by omega))
      obtain ⟨z0, z1, z2, z3, z4, z5⟩ := kr2.facts3
      clear kr2 hb2'
      go_wp2_with fail
      refine bodyPost_ret (results_cell_row rfl _ _ (w.heap.size + 2) _ #[.bool false, .slice none 0 0, .slice none 0 0] (0, 0) _ rfl HO.out.1 Tryz.underlying47 rfl Tryz.sizeRat) rfl ?_
      exact ⟨_, _, rfl, HO.out.2.1, HO.out.2.2⟩
  · have hr : ratB s xs ds = false := by simpa using hr
    have hz := HNO.out (.inl hr)
    subst hz
    rw [hr]
    clear HNO HCO
    have HO := hide (ret_rat0 (F := 3) kr1 hb1' (show w.heap.size ≤ w.heap.size + 2 by omega))
    obtain ⟨z0, z1, z2, z3, z4, z5⟩ := kr1.facts3
    clear kr1 hb1'
    go_wp2_with fail
    refine bodyPost_ret (results_cell_row rfl _ _ (w.heap.size + 2) _ #[.bool false, .slice none 0 0, .slice none 0 0] (0, 0) _ rfl HO.out.1 Tryz.underlying47 rfl Tryz.sizeRat) rfl ?_
    exact ⟨_, _, rfl, HO.out.2.1, HO.out.2.2⟩
set_option maxRecDepth 100000 in
set_option maxHeartbeats 800000 in
theorem impl_RatAdd (w : World) (B : Nat) (hB : B ≤ w.heap.size) (s : Bool) (A : Option Addr) (n c : Nat) (xs : List Int) (Rx : RdI w B A n xs) (D : Option Addr) (m k : Nat) (ds : List Int) (Rd' : RdI w B D m ds) (t : Bool) (A' : Option Addr) (n' c' : Nat) (ys : List Int) (Ry : RdI w B A' n' ys) (D' : Option Addr) (m' k' : Nat) (es : List Int) (Re' : RdI w B D' m' es) :
    Calls Tryz.prog 71 #[.agg #[.bool s, .slice A n c, .slice D m k], .agg #[.bool t, .slice A' n' c', .slice D' m' k']] w fun e w' => RatRes 3 w w' e (addR s xs ds t ys es) := by
  obtain ⟨W0, hW0⟩ : ∃ W0, W0 = (((w.alloc (.cells #[.bool s, .slice A n c, .slice D m k] 47)).alloc (.cells #[.bool t, .slice A' n' c', .slice D' m' k'] 47)).alloc (.cells #[.bool false, .slice none 0 0, .slice none 0 0] 47)) := ⟨_, rfl⟩
  have hb0 : Below w.heap.size w W0 := by rw [hW0]; exact below_alloc (below_alloc (below_new _ _) _) _
  have kx : Box W0 (w.heap.size) 47 #[.bool s, .slice A n c, .slice D m k] := by rw [hW0]; exact ((Box.last _ _ _ rfl).alloc _).alloc _
  have ky : Box W0 (w.heap.size + 1) 47 #[.bool t, .slice A' n' c', .slice D' m' k'] := by rw [hW0]; exact (Box.last _ _ _ (alloc_size _ _).symm).alloc _
  have kr : Box W0 (w.heap.size + 2) 47 #[.bool false, .slice none 0 0, .slice none 0 0] := by rw [hW0]; exact Box.last _ _ _ (by rw [alloc_size, alloc_size])
  have hs0 : W0.heap.size = w.heap.size + 3 := by rw [hW0, alloc_size, alloc_size, alloc_size]
  have HCP := hide (impl_ifValid_plus W0 B (by omega) s A n c xs (Rx.below (hb0.mono hB)) D m k ds (Rd'.below (hb0.mono hB)) t A' n' c' ys (Ry.below (hb0.mono hB)) D' m' k' es (Re'.below (hb0.mono hB)))
  generalize addR s xs ds t ys es = Z at HCP ⊢
  go_enter Tryz.func71, Tryz.ntmps71
  go_upto_region 1 with fail
  rw [← hW0]
  clear hW0
  obtain ⟨a0, a1, a2⟩ := kx.cells3
  obtain ⟨b0, b1, b2⟩ := ky.cells3
  go_wp2_with fail
  refine (HCP.out).mono ?_
  rintro e w1 ⟨v1, d1, rfl, p1, hb1⟩
  obtain ⟨A1, c1, K1, k1, rfl, rfl⟩ := p1.form
  have kr1 := kr.below hb1 kr.lt
  have hb1' := below_then hb0 hb1
  obtain ⟨z0, z1, z2, z3, z4, z5⟩ := kr1.facts3
  have HO := hide (ret_rat kr1 p1 hb1' (x := Z.1.1) (show w.heap.size ≤ w.heap.size + 2 by omega) (by omega))
  clear kr1 p1 hb1' hb1 kr HCP
  go_wp2_with fail
  refine bodyPost_ret (results_cell_row rfl _ _ (w.heap.size + 2) _ #[.bool Z.1.1, .slice A1 Z.1.2.length c1, .slice K1 Z.2.length k1] (0, 0) _ rfl HO.out.1 Tryz.underlying47 rfl Tryz.sizeRat) rfl ?_
  exact ⟨_, _, rfl, HO.out.2.1, HO.out.2.2⟩
end Go.Proofs.YtocllmaikngoaaaGreatDoor
