/-
  The reference's fractions: contracts (7): RatAdd, RatMul, RatSub, RatDiv, RatCmp, RatSign, RatNeg, RatMin, RatMax.
-/
import Derived.Test.YtnbaookdeijhhaaGreatRatR6
namespace Go.Proofs.YtnbaookdeijhhaaGreat
open Go.RowKit
set_option linter.unusedVariables false
theorem addR_okR {s t : Bool} {xs ds ys es : List Int} (h : ratB s xs ds = true) (k : ratB t ys es = true) : addR s xs ds t ys es = lowR (zv s xs * val es + zv t ys * val ds) (natV ds * natV es) := by rw [addR, h, k]; rfl
theorem mulR_okR {s t : Bool} {xs ds ys es : List Int} (h : ratB s xs ds = true) (k : ratB t ys es = true) : mulR s xs ds t ys es = lowR (zv s xs * zv t ys) (natV ds * natV es) := by rw [mulR, h, k]; rfl
theorem addR_noR {s t : Bool} {xs ds ys es : List Int} (h : ratB s xs ds = false ∨ ratB t ys es = false) : addR s xs ds t ys es = noR := by rw [addR, if_neg]; rcases h with h | h <;> simp [h]
theorem mulR_noR {s t : Bool} {xs ds ys es : List Int} (h : ratB s xs ds = false ∨ ratB t ys es = false) : mulR s xs ds t ys es = noR := by rw [mulR, if_neg]; rcases h with h | h <;> simp [h]
set_option maxRecDepth 100000 in
set_option maxHeartbeats 3200000 in
theorem spec_RatAdd (w : World) (B : Nat) (hB : B ≤ w.heap.size) (s : Bool) (A : Option Addr) (n c : Nat) (xs : List Int) (Rx : RdI w B A n xs) (D : Option Addr) (m k : Nat) (ds : List Int) (Rd' : RdI w B D m ds) (t : Bool) (A' : Option Addr) (n' c' : Nat) (ys : List Int) (Ry : RdI w B A' n' ys) (D' : Option Addr) (m' k' : Nat) (es : List Int) (Re' : RdI w B D' m' es) :
    Calls Tryz.prog 15 #[.agg #[.bool s, .slice A n c, .slice D m k], .agg #[.bool t, .slice A' n' c', .slice D' m' k']] w fun e w' => RatRes 3 w w' e (addR s xs ds t ys es) := by
  have HNO := hide (addR_noR (s := s) (t := t) (xs := xs) (ds := ds) (ys := ys) (es := es))
  have HOK := hide (addR_okR (s := s) (t := t) (xs := xs) (ds := ds) (ys := ys) (es := es))
  generalize addR s xs ds t ys es = Z at HNO HOK ⊢
  obtain ⟨W0, hW0⟩ : ∃ W0, W0 = (((w.alloc (.cells #[.bool s, .slice A n c, .slice D m k] 32)).alloc (.cells #[.bool t, .slice A' n' c', .slice D' m' k'] 32)).alloc (.cells #[.bool false, .slice none 0 0, .slice none 0 0] 32)) := ⟨_, rfl⟩
  have hb0 : Below w.heap.size w W0 := by rw [hW0]; exact below_alloc (below_alloc (below_new _ _) _) _
  have kx : Box W0 (w.heap.size) 32 #[.bool s, .slice A n c, .slice D m k] := by rw [hW0]; exact ((Box.last _ _ _ rfl).alloc _).alloc _
  have ky : Box W0 (w.heap.size + 1) 32 #[.bool t, .slice A' n' c', .slice D' m' k'] := by rw [hW0]; exact (Box.last _ _ _ (alloc_size _ _).symm).alloc _
  have kr : Box W0 (w.heap.size + 2) 32 #[.bool false, .slice none 0 0, .slice none 0 0] := by rw [hW0]; exact Box.last _ _ _ (by rw [alloc_size, alloc_size])
  have hs0 : W0.heap.size = w.heap.size + 3 := by rw [hW0, alloc_size, alloc_size, alloc_size]
  go_enter Tryz.func15, Tryz.ntmps15
  go_upto_region 1 with fail
  rw [← hW0]
  clear hW0
  obtain ⟨a0, a1, a2⟩ := kx.cells3
  obtain ⟨b0, b1, b2⟩ := ky.cells3
  go_wp2_with fail
  refine (spec_RatOk W0 B (by omega) s A n c xs (Rx.below (hb0.mono hB)) D m k ds (Rd'.below (hb0.mono hB))).mono ?_
  rintro e w1 ⟨rfl, hb1⟩
  have kx1 := kx.below hb1 kx.lt
  have ky1 := ky.below hb1 ky.lt
  have kr1 := kr.below hb1 kr.lt
  have hs1 := hb1.size
  have hb1' := below_then hb0 hb1
  clear a0 a1 a2 b0 b1 b2 kx ky hb0 hb1 kr
  by_cases hr : ratB s xs ds = true
  · rw [hr]
    obtain ⟨a0, a1, a2⟩ := kx1.cells3
    obtain ⟨b0, b1, b2⟩ := ky1.cells3
    go_wp2_with fail
    refine (spec_RatOk w1 B (by omega) t A' n' c' ys (Ry.below (hb1'.mono hB)) D' m' k' es (Re'.below (hb1'.mono hB))).mono ?_
    rintro e w2 ⟨rfl, hb2⟩
    have kx2 := kx1.below hb2 kx1.lt
    have ky2 := ky1.below hb2 ky1.lt
    have kr2 := kr1.below hb2 kr1.lt
    have hs2 := hb2.size
    have hb2' := below_then hb1' hb2
    clear a0 a1 a2 b0 b1 b2 kx1 ky1 hb1' hb2 kr1
    by_cases hq : ratB t ys es = true
    · rw [hq]
      have hz := HOK.out hr hq
      obtain ⟨a0, a1, a2⟩ := kx2.cells3
      obtain ⟨b0, b1, b2⟩ := ky2.cells3
      clear HNO HOK
      subst hz
      have HCP := hide (spec_ratAdd w2 B (by omega) s A n c xs (Rx.below (hb2'.mono hB)) D m k ds (Rd'.below (hb2'.mono hB)) hr t A' n' c' ys (Ry.below (hb2'.mono hB)) D' m' k' es (Re'.below (hb2'.mono hB)) hq)
      clear hr hq
      go_wp2_with fail
      refine (HCP.out).mono ?_
      rintro e w3 ⟨v3, d3, rfl, p3, hb3⟩
      obtain ⟨A3, c3, K3, k3, rfl, rfl⟩ := p3.form
      have kr3 := kr2.below hb3 kr2.lt
      have hb3' := below_then hb2' hb3
      obtain ⟨z0, z1, z2, z3, z4, z5⟩ := kr3.facts3
      have HO := hide (ret_rat kr3 p3 hb3' (x := (lowR (zv s xs * val es + zv t ys * val ds) (natV ds * natV es)).1.1) (show w.heap.size ≤ w.heap.size + 2 by omega) (by omega))
      clear kr3 p3 hb3' hb3 kr2 HCP
      go_wp2_with fail
      refine bodyPost_ret (results_cell_row rfl _ _ (w.heap.size + 2) _ #[.bool (lowR (zv s xs * val es + zv t ys * val ds) (natV ds * natV es)).1.1, .slice A3 (lowR (zv s xs * val es + zv t ys * val ds) (natV ds * natV es)).1.2.length c3, .slice K3 (lowR (zv s xs * val es + zv t ys * val ds) (natV ds * natV es)).2.length k3] (0, 0) _ rfl HO.out.1 Tryz.underlying32 rfl Tryz.sizeRat) rfl ?_
      exact ⟨_, _, rfl, HO.out.2.1, HO.out.2.2⟩
    · have hq : ratB t ys es = false := by simpa using hq
      have hz := HNO.out (.inr hq)
      subst hz
      rw [hq]
      clear HNO HOK
      have HO := hide (ret_rat0 (F := 3) kr2 hb2' (show w.heap.size ≤ w.heap.size + 2 by omega))
      obtain ⟨z0, z1, z2, z3, z4, z5⟩ := kr2.facts3
      clear kr2 hb2'
      go_wp2_with fail
      refine bodyPost_ret (results_cell_row rfl _ _ (w.heap.size + 2) _ #[.bool false, .slice none 0 0, .slice none 0 0] (0, 0) _ rfl HO.out.1 Tryz.underlying32 rfl Tryz.sizeRat) rfl ?_
      exact ⟨_, _, rfl, HO.out.2.1, HO.out.2.2⟩
  · have hr : ratB s xs ds = false := by simpa using hr
    have hz := HNO.out (.inl hr)
    subst hz
    rw [hr]
    clear HNO HOK
    have HO := hide (ret_rat0 (F := 3) kr1 hb1' (show w.heap.size ≤ w.heap.size + 2 by omega))
    obtain ⟨z0, z1, z2, z3, z4, z5⟩ := kr1.facts3
    clear kr1 hb1'
    go_wp2_with fail
    refine bodyPost_ret (results_cell_row rfl _ _ (w.heap.size + 2) _ #[.bool false, .slice none 0 0, .slice none 0 0] (0, 0) _ rfl HO.out.1 Tryz.underlying32 rfl Tryz.sizeRat) rfl ?_
    exact ⟨_, _, rfl, HO.out.2.1, HO.out.2.2⟩
set_option maxRecDepth 100000 in
set_option maxHeartbeats 3200000 in
theorem spec_RatMul (w : World) (B : Nat) (hB : B ≤ w.heap.size) (s : Bool) (A : Option Addr) (n c : Nat) (xs : List Int) (Rx : RdI w B A n xs) (D : Option Addr) (m k : Nat) (ds : List Int) (Rd' : RdI w B D m ds) (t : Bool) (A' : Option Addr) (n' c' : Nat) (ys : List Int) (Ry : RdI w B A' n' ys) (D' : Option Addr) (m' k' : Nat) (es : List Int) (Re' : RdI w B D' m' es) :
    Calls Tryz.prog 14 #[.agg #[.bool s, .slice A n c, .slice D m k], .agg #[.bool t, .slice A' n' c', .slice D' m' k']] w fun e w' => RatRes 3 w w' e (mulR s xs ds t ys es) := by
  have HNO := hide (mulR_noR (s := s) (t := t) (xs := xs) (ds := ds) (ys := ys) (es := es))
  have HOK := hide (mulR_okR (s := s) (t := t) (xs := xs) (ds := ds) (ys := ys) (es := es))
  generalize mulR s xs ds t ys es = Z at HNO HOK ⊢
  obtain ⟨W0, hW0⟩ : ∃ W0, W0 = (((w.alloc (.cells #[.bool s, .slice A n c, .slice D m k] 32)).alloc (.cells #[.bool t, .slice A' n' c', .slice D' m' k'] 32)).alloc (.cells #[.bool false, .slice none 0 0, .slice none 0 0] 32)) := ⟨_, rfl⟩
  have hb0 : Below w.heap.size w W0 := by rw [hW0]; exact below_alloc (below_alloc (below_new _ _) _) _
  have kx : Box W0 (w.heap.size) 32 #[.bool s, .slice A n c, .slice D m k] := by rw [hW0]; exact ((Box.last _ _ _ rfl).alloc _).alloc _
  have ky : Box W0 (w.heap.size + 1) 32 #[.bool t, .slice A' n' c', .slice D' m' k'] := by rw [hW0]; exact (Box.last _ _ _ (alloc_size _ _).symm).alloc _
  have kr : Box W0 (w.heap.size + 2) 32 #[.bool false, .slice none 0 0, .slice none 0 0] := by rw [hW0]; exact Box.last _ _ _ (by rw [alloc_size, alloc_size])
  have hs0 : W0.heap.size = w.heap.size + 3 := by rw [hW0, alloc_size, alloc_size, alloc_size]
  go_enter Tryz.func14, Tryz.ntmps14
  go_upto_region 1 with fail
  rw [← hW0]
  clear hW0
  obtain ⟨a0, a1, a2⟩ := kx.cells3
  obtain ⟨b0, b1, b2⟩ := ky.cells3
  go_wp2_with fail
  refine (spec_RatOk W0 B (by omega) s A n c xs (Rx.below (hb0.mono hB)) D m k ds (Rd'.below (hb0.mono hB))).mono ?_
  rintro e w1 ⟨rfl, hb1⟩
  have kx1 := kx.below hb1 kx.lt
  have ky1 := ky.below hb1 ky.lt
  have kr1 := kr.below hb1 kr.lt
  have hs1 := hb1.size
  have hb1' := below_then hb0 hb1
  clear a0 a1 a2 b0 b1 b2 kx ky hb0 hb1 kr
  by_cases hr : ratB s xs ds = true
  · rw [hr]
    obtain ⟨a0, a1, a2⟩ := kx1.cells3
    obtain ⟨b0, b1, b2⟩ := ky1.cells3
    go_wp2_with fail
    refine (spec_RatOk w1 B (by omega) t A' n' c' ys (Ry.below (hb1'.mono hB)) D' m' k' es (Re'.below (hb1'.mono hB))).mono ?_
    rintro e w2 ⟨rfl, hb2⟩
    have kx2 := kx1.below hb2 kx1.lt
    have ky2 := ky1.below hb2 ky1.lt
    have kr2 := kr1.below hb2 kr1.lt
    have hs2 := hb2.size
    have hb2' := below_then hb1' hb2
    clear a0 a1 a2 b0 b1 b2 kx1 ky1 hb1' hb2 kr1
    by_cases hq : ratB t ys es = true
    · rw [hq]
      have hz := HOK.out hr hq
      obtain ⟨a0, a1, a2⟩ := kx2.cells3
      obtain ⟨b0, b1, b2⟩ := ky2.cells3
      clear HNO HOK
      subst hz
      have HCP := hide (spec_ratMul w2 B (by omega) s A n c xs (Rx.below (hb2'.mono hB)) D m k ds (Rd'.below (hb2'.mono hB)) hr t A' n' c' ys (Ry.below (hb2'.mono hB)) D' m' k' es (Re'.below (hb2'.mono hB)) hq)
      clear hr hq
      go_wp2_with fail
      refine (HCP.out).mono ?_
      rintro e w3 ⟨v3, d3, rfl, p3, hb3⟩
      obtain ⟨A3, c3, K3, k3, rfl, rfl⟩ := p3.form
      have kr3 := kr2.below hb3 kr2.lt
      have hb3' := below_then hb2' hb3
      obtain ⟨z0, z1, z2, z3, z4, z5⟩ := kr3.facts3
      have HO := hide (ret_rat kr3 p3 hb3' (x := (lowR (zv s xs * zv t ys) (natV ds * natV es)).1.1) (show w.heap.size ≤ w.heap.size + 2 by omega) (by omega))
      clear kr3 p3 hb3' hb3 kr2 HCP
      go_wp2_with fail
      refine bodyPost_ret (results_cell_row rfl _ _ (w.heap.size + 2) _ #[.bool (lowR (zv s xs * zv t ys) (natV ds * natV es)).1.1, .slice A3 (lowR (zv s xs * zv t ys) (natV ds * natV es)).1.2.length c3, .slice K3 (lowR (zv s xs * zv t ys) (natV ds * natV es)).2.length k3] (0, 0) _ rfl HO.out.1 Tryz.underlying32 rfl Tryz.sizeRat) rfl ?_
      exact ⟨_, _, rfl, HO.out.2.1, HO.out.2.2⟩
    · have hq : ratB t ys es = false := by simpa using hq
      have hz := HNO.out (.inr hq)
      subst hz
      rw [hq]
      clear HNO HOK
      have HO := hide (ret_rat0 (F := 3) kr2 hb2' (show w.heap.size ≤ w.heap.size + 2 by omega))
      obtain ⟨z0, z1, z2, z3, z4, z5⟩ := kr2.facts3
      clear kr2 hb2'
      go_wp2_with fail
      refine bodyPost_ret (results_cell_row rfl _ _ (w.heap.size + 2) _ #[.bool false, .slice none 0 0, .slice none 0 0] (0, 0) _ rfl HO.out.1 Tryz.underlying32 rfl Tryz.sizeRat) rfl ?_
      exact ⟨_, _, rfl, HO.out.2.1, HO.out.2.2⟩
  · have hr : ratB s xs ds = false := by simpa using hr
    have hz := HNO.out (.inl hr)
    subst hz
    rw [hr]
    clear HNO HOK
    have HO := hide (ret_rat0 (F := 3) kr1 hb1' (show w.heap.size ≤ w.heap.size + 2 by omega))
    obtain ⟨z0, z1, z2, z3, z4, z5⟩ := kr1.facts3
    clear kr1 hb1'
    go_wp2_with fail
    refine bodyPost_ret (results_cell_row rfl _ _ (w.heap.size + 2) _ #[.bool false, .slice none 0 0, .slice none 0 0] (0, 0) _ rfl HO.out.1 Tryz.underlying32 rfl Tryz.sizeRat) rfl ?_
    exact ⟨_, _, rfl, HO.out.2.1, HO.out.2.2⟩
end Go.Proofs.YtnbaookdeijhhaaGreat
