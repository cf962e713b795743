/-
  The reference's fractions: contracts (7): RatAdd, RatMul, RatSub, RatDiv, RatCmp, RatSign, RatNeg, RatMin, RatMax.
-/
import Derived.Test.YtcpncoonbdbkmaaRatR6
namespace Go.Proofs.Ytcpncoonbdbkmaa
open Go.RowKit
set_option linter.unusedVariables false
theorem addR_okR {s t : Bool} {xs ds ys es : List Int} (h : ratB s xs ds = true) (k : ratB t ys es = true) : addR s xs ds t ys es = lowR (zv s xs * val es + zv t ys * val ds) (natV ds * natV es) := by rw [addR, h, k]; rfl
theorem subR_okR {s t : Bool} {xs ds ys es : List Int} (h : ratB s xs ds = true) (k : ratB t ys es = true) : subR s xs ds t ys es = lowR (zv s xs * val es + zv (!t) ys * val ds) (natV ds * natV es) := by rw [subR, h, k]; rfl
theorem mulR_okR {s t : Bool} {xs ds ys es : List Int} (h : ratB s xs ds = true) (k : ratB t ys es = true) : mulR s xs ds t ys es = lowR (zv s xs * zv t ys) (natV ds * natV es) := by rw [mulR, h, k]; rfl
theorem addR_noR {s t : Bool} {xs ds ys es : List Int} (h : ratB s xs ds = false ∨ ratB t ys es = false) : addR s xs ds t ys es = noR := by rw [addR, if_neg]; rcases h with h | h <;> simp [h]
theorem subR_noR {s t : Bool} {xs ds ys es : List Int} (h : ratB s xs ds = false ∨ ratB t ys es = false) : subR s xs ds t ys es = noR := by rw [subR, if_neg]; rcases h with h | h <;> simp [h]
theorem mulR_noR {s t : Bool} {xs ds ys es : List Int} (h : ratB s xs ds = false ∨ ratB t ys es = false) : mulR s xs ds t ys es = noR := by rw [mulR, if_neg]; rcases h with h | h <;> simp [h]
theorem neg_ratR {t : Bool} {ys es : List Int} (h : ratB t ys es = true) : ratB (!t && !ys.isEmpty) ys es = true := by
  have h1 := (neg_rat h).1
  rw [← negZ_ok (ratB_big h)] at h1
  exact h1
set_option maxRecDepth 100000 in
set_option maxHeartbeats 3200000 in
theorem spec_RatAdd (w : World) (B : Nat) (hB : B ≤ w.heap.size) (s : Bool) (A : Option Addr) (n c : Nat) (xs : List Int) (Rx : RdI w B A n xs) (D : Option Addr) (m k : Nat) (ds : List Int) (Rd' : RdI w B D m ds) (t : Bool) (A' : Option Addr) (n' c' : Nat) (ys : List Int) (Ry : RdI w B A' n' ys) (D' : Option Addr) (m' k' : Nat) (es : List Int) (Re' : RdI w B D' m' es) :
    Calls Try.prog 14 #[.agg #[.bool s, .slice A n c, .slice D m k], .agg #[.bool t, .slice A' n' c', .slice D' m' k']] w fun e w' => RatRes 3 w w' e (addR s xs ds t ys es) := by
  have HNO := hide (addR_noR (s := s) (t := t) (xs := xs) (ds := ds) (ys := ys) (es := es))
  have HOK := hide (addR_okR (s := s) (t := t) (xs := xs) (ds := ds) (ys := ys) (es := es))
  generalize addR s xs ds t ys es = Z at HNO HOK ⊢
  obtain ⟨W0, hW0⟩ : ∃ W0, W0 = (((w.alloc (.cells #[.bool s, .slice A n c, .slice D m k] 32)).alloc (.cells #[.bool t, .slice A' n' c', .slice D' m' k'] 32)).alloc (.cells #[.bool false, .slice none 0 0, .slice none 0 0] 32)) := ⟨_, rfl⟩
  have hb0 : Below w.heap.size w W0 := by rw [hW0]; exact below_alloc (below_alloc (below_new _ _) _) _
  have kx : Box W0 (w.heap.size) 32 #[.bool s, .slice A n c, .slice D m k] := by rw [hW0]; exact ((Box.last _ _ _ rfl).alloc _).alloc _
  have ky : Box W0 (w.heap.size + 1) 32 #[.bool t, .slice A' n' c', .slice D' m' k'] := by rw [hW0]; exact (Box.last _ _ _ (alloc_size _ _).symm).alloc _
  have kr : Box W0 (w.heap.size + 2) 32 #[.bool false, .slice none 0 0, .slice none 0 0] := by rw [hW0]; exact Box.last _ _ _ (by rw [alloc_size, alloc_size])
  have hs0 : W0.heap.size = w.heap.size + 3 := by rw [hW0, alloc_size, alloc_size, alloc_size]
  go_enter Try.func14, Try.ntmps14
  go_upto_region 1 with fail
  rw [← hW0]
  clear hW0
  obtain ⟨a0, a1, a2⟩ := kx.cells3
  obtain ⟨b0, b1, b2⟩ := ky.cells3
  go_wp2_with fail
  refine (spec_RatOk W0 B (by omega) s A n c xs (Rx.below (hb0.mono hB)) D m k ds (Rd'.below (hb0.mono hB))).mono ?_
  rintro e w1 ⟨rfl, hb1⟩
  have kx1 := kx.below hb1 kx.lt
  have ky1 := ky.below hb1 ky.lt
  have kr1 := kr.below hb1 kr.lt
  have hs1 := hb1.size
  have hb1' := below_then hb0 hb1
  clear a0 a1 a2 b0 b1 b2 kx ky hb0 hb1 kr
  by_cases hr : ratB s xs ds = true
  · rw [hr]
    obtain ⟨a0, a1, a2⟩ := kx1.cells3
    obtain ⟨b0, b1, b2⟩ := ky1.cells3
    go_wp2_with fail
    refine (spec_RatOk w1 B (by omega) t A' n' c' ys (Ry.below (hb1'.mono hB)) D' m' k' es (Re'.below (hb1'.mono hB))).mono ?_
    rintro e w2 ⟨rfl, hb2⟩
    have kx2 := kx1.below hb2 kx1.lt
    have ky2 := ky1.below hb2 ky1.lt
    have kr2 := kr1.below hb2 kr1.lt
    have hs2 := hb2.size
    have hb2' := below_then hb1' hb2
    clear a0 a1 a2 b0 b1 b2 kx1 ky1 hb1' hb2 kr1
    by_cases hq : ratB t ys es = true
    · rw [hq]
      have hz := HOK.out hr hq
      obtain ⟨a0, a1, a2⟩ := kx2.cells3
      obtain ⟨b0, b1, b2⟩ := ky2.cells3
      clear HNO HOK
      subst hz
      have HCP := hide (spec_ratAdd w2 B (by omega) s A n c xs (Rx.below (hb2'.mono hB)) D m k ds (Rd'.below (hb2'.mono hB)) hr t A' n' c' ys (Ry.below (hb2'.mono hB)) D' m' k' es (Re'.below (hb2'.mono hB)) hq)
      clear hr hq
      go_wp2_with fail
      refine (HCP.out).mono ?_
      rintro e w3 ⟨v3, d3, rfl, p3, hb3⟩
      obtain ⟨A3, c3, K3, k3, rfl, rfl⟩ := p3.form
      have kr3 := kr2.below hb3 kr2.lt
      have hb3' := below_then hb2' hb3
      obtain ⟨z0, z1, z2, z3, z4, z5⟩ := kr3.facts3
      have HO := hide (ret_rat kr3 p3 hb3' (x := (lowR (zv s xs * val es + zv t ys * val ds) (natV ds * natV es)).1.1) (show w.heap.size ≤ w.heap.size + 2 by omega) (by omega))
      clear kr3 p3 hb3' hb3 kr2 HCP
      go_wp2_with fail
      refine bodyPost_ret (results_cell_row rfl _ _ (w.heap.size + 2) _ #[.bool (lowR (zv s xs * val es + zv t ys * val ds) (natV ds * natV es)).1.1, .slice A3 (lowR (zv s xs * val es + zv t ys * val ds) (natV ds * natV es)).1.2.length c3, .slice K3 (lowR (zv s xs * val es + zv t ys * val ds) (natV ds * natV es)).2.length k3] (0, 0) _ rfl HO.out.1 Try.underlying32 rfl Try.sizeRat) rfl ?_
      exact ⟨_, _, rfl, HO.out.2.1, HO.out.2.2⟩
    · have hq : ratB t ys es = false := by simpa using hq
      have hz := HNO.out (.inr hq)
      subst hz
      rw [hq]
      clear HNO HOK
      have HO := hide (ret_rat0 (F := 3) kr2 hb2' (show w.heap.size ≤ w.heap.size + 2 by omega))
      obtain ⟨z0, z1, z2, z3, z4, z5⟩ := kr2.facts3
      clear kr2 hb2'
      go_wp2_with fail
      refine bodyPost_ret (results_cell_row rfl _ _ (w.heap.size + 2) _ #[.bool false, .slice none 0 0, .slice none 0 0] (0, 0) _ rfl HO.out.1 Try.underlying32 rfl Try.sizeRat) rfl ?_
      exact ⟨_, _, rfl, HO.out.2.1, HO.out.2.2⟩
  · have hr : ratB s xs ds = false := by simpa using hr
    have hz := HNO.out (.inl hr)
    subst hz
    rw [hr]
    clear HNO HOK
    have HO := hide (ret_rat0 (F := 3) kr1 hb1' (show w.heap.size ≤ w.heap.size + 2 by omega))
    obtain ⟨z0, z1, z2, z3, z4, z5⟩ := kr1.facts3
    clear kr1 hb1'
    go_wp2_with fail
    refine bodyPost_ret (results_cell_row rfl _ _ (w.heap.size + 2) _ #[.bool false, .slice none 0 0, .slice none 0 0] (0, 0) _ rfl HO.out.1 Try.underlying32 rfl Try.sizeRat) rfl ?_
    exact ⟨_, _, rfl, HO.out.2.1, HO.out.2.2⟩
set_option maxRecDepth 100000 in
set_option maxHeartbeats 3200000 in
theorem spec_RatMul (w : World) (B : Nat) (hB : B ≤ w.heap.size) (s : Bool) (A : Option Addr) (n c : Nat) (xs : List Int) (Rx : RdI w B A n xs) (D : Option Addr) (m k : Nat) (ds : List Int) (Rd' : RdI w B D m ds) (t : Bool) (A' : Option Addr) (n' c' : Nat) (ys : List Int) (Ry : RdI w B A' n' ys) (D' : Option Addr) (m' k' : Nat) (es : List Int) (Re' : RdI w B D' m' es) :
    Calls Try.prog 15 #[.agg #[.bool s, .slice A n c, .slice D m k], .agg #[.bool t, .slice A' n' c', .slice D' m' k']] w fun e w' => RatRes 3 w w' e (mulR s xs ds t ys es) := by
  have HNO := hide (mulR_noR (s := s) (t := t) (xs := xs) (ds := ds) (ys := ys) (es := es))
  have HOK := hide (mulR_okR (s := s) (t := t) (xs := xs) (ds := ds) (ys := ys) (es := es))
  generalize mulR s xs ds t ys es = Z at HNO HOK ⊢
  obtain ⟨W0, hW0⟩ : ∃ W0, W0 = (((w.alloc (.cells #[.bool s, .slice A n c, .slice D m k] 32)).alloc (.cells #[.bool t, .slice A' n' c', .slice D' m' k'] 32)).alloc (.cells #[.bool false, .slice none 0 0, .slice none 0 0] 32)) := ⟨_, rfl⟩
  have hb0 : Below w.heap.size w W0 := by rw [hW0]; exact below_alloc (below_alloc (below_new _ _) _) _
  have kx : Box W0 (w.heap.size) 32 #[.bool s, .slice A n c, .slice D m k] := by rw [hW0]; exact ((Box.last _ _ _ rfl).alloc _).alloc _
  have ky : Box W0 (w.heap.size + 1) 32 #[.bool t, .slice A' n' c', .slice D' m' k'] := by rw [hW0]; exact (Box.last _ _ _ (alloc_size _ _).symm).alloc _
  have kr : Box W0 (w.heap.size + 2) 32 #[.bool false, .slice none 0 0, .slice none 0 0] := by rw [hW0]; exact Box.last _ _ _ (by rw [alloc_size, alloc_size])
  have hs0 : W0.heap.size = w.heap.size + 3 := by rw [hW0, alloc_size, alloc_size, alloc_size]
  go_enter Try.func15, Try.ntmps15
  go_upto_region 1 with fail
  rw [← hW0]
  clear hW0
  obtain ⟨a0, a1, a2⟩ := kx.cells3
  obtain ⟨b0, b1, b2⟩ := ky.cells3
  go_wp2_with fail
  refine (spec_RatOk W0 B (by omega) s A n c xs (Rx.below (hb0.mono hB)) D m k ds (Rd'.below (hb0.mono hB))).mono ?_
  rintro e w1 ⟨rfl, hb1⟩
  have kx1 := kx.below hb1 kx.lt
  have ky1 := ky.below hb1 ky.lt
  have kr1 := kr.below hb1 kr.lt
  have hs1 := hb1.size
  have hb1' := below_then hb0 hb1
  clear a0 a1 a2 b0 b1 b2 kx ky hb0 hb1 kr
  by_cases hr : ratB s xs ds = true
  · rw [hr]
    obtain ⟨a0, a1, a2⟩ := kx1.cells3
    obtain ⟨b0, b1, b2⟩ := ky1.cells3
    go_wp2_with fail
    refine (spec_RatOk w1 B (by omega) t A' n' c' ys (Ry.below (hb1'.mono hB)) D' m' k' es (Re'.below (hb1'.mono hB))).mono ?_
    rintro e w2 ⟨rfl, hb2⟩
    have kx2 := kx1.below hb2 kx1.lt
    have ky2 := ky1.below hb2 ky1.lt
    have kr2 := kr1.below hb2 kr1.lt
    have hs2 := hb2.size
    have hb2' := below_then hb1' hb2
    clear a0 a1 a2 b0 b1 b2 kx1 ky1 hb1' hb2 kr1
    by_cases hq : ratB t ys es = true
    · rw [hq]
      have hz := HOK.out hr hq
      obtain ⟨a0, a1, a2⟩ := kx2.cells3
      obtain ⟨b0, b1, b2⟩ := ky2.cells3
      clear HNO HOK
      subst hz
      have HCP := hide (spec_ratMul w2 B (by omega) s A n c xs (Rx.below (hb2'.mono hB)) D m k ds (Rd'.below (hb2'.mono hB)) hr t A' n' c' ys (Ry.below (hb2'.mono hB)) D' m' k' es (Re'.below (hb2'.mono hB)) hq)
      clear hr hq
      go_wp2_with fail
      refine (HCP.out).mono ?_
      rintro e w3 ⟨v3, d3, rfl, p3, hb3⟩
      obtain ⟨A3, c3, K3, k3, rfl, rfl⟩ := p3.form
      have kr3 := kr2.below hb3 kr2.lt
      have hb3' := below_then hb2' hb3
      obtain ⟨z0, z1, z2, z3, z4, z5⟩ := kr3.facts3
      have HO := hide (ret_rat kr3 p3 hb3' (x := (lowR (zv s xs * zv t ys) (natV ds * natV es)).1.1) (show w.heap.size ≤ w.heap.size + 2 by omega) (by omega))
      clear kr3 p3 hb3' hb3 kr2 HCP
      go_wp2_with fail
      refine bodyPost_ret (results_cell_row rfl _ _ (w.heap.size + 2) _ #[.bool (lowR (zv s xs * zv t ys) (natV ds * natV es)).1.1, .slice A3 (lowR (zv s xs * zv t ys) (natV ds * natV es)).1.2.length c3, .slice K3 (lowR (zv s xs * zv t ys) (natV ds * natV es)).2.length k3] (0, 0) _ rfl HO.out.1 Try.underlying32 rfl Try.sizeRat) rfl ?_
      exact ⟨_, _, rfl, HO.out.2.1, HO.out.2.2⟩
    · have hq : ratB t ys es = false := by simpa using hq
      have hz := HNO.out (.inr hq)
      subst hz
      rw [hq]
      clear HNO HOK
      have HO := hide (ret_rat0 (F := 3) kr2 hb2' (show w.heap.size ≤ w.heap.size + 2 by omega))
      obtain ⟨z0, z1, z2, z3, z4, z5⟩ := kr2.facts3
      clear kr2 hb2'
      go_wp2_with fail
      refine bodyPost_ret (results_cell_row rfl _ _ (w.heap.size + 2) _ #[.bool false, .slice none 0 0, .slice none 0 0] (0, 0) _ rfl HO.out.1 Try.underlying32 rfl Try.sizeRat) rfl ?_
      exact ⟨_, _, rfl, HO.out.2.1, HO.out.2.2⟩
  · have hr : ratB s xs ds = false := by simpa using hr
    have hz := HNO.out (.inl hr)
    subst hz
    rw [hr]
    clear HNO HOK
    have HO := hide (ret_rat0 (F := 3) kr1 hb1' (show w.heap.size ≤ w.heap.size + 2 by omega))
    obtain ⟨z0, z1, z2, z3, z4, z5⟩ := kr1.facts3
    clear kr1 hb1'
    go_wp2_with fail
    refine bodyPost_ret (results_cell_row rfl _ _ (w.heap.size + 2) _ #[.bool false, .slice none 0 0, .slice none 0 0] (0, 0) _ rfl HO.out.1 Try.underlying32 rfl Try.sizeRat) rfl ?_
    exact ⟨_, _, rfl, HO.out.2.1, HO.out.2.2⟩
set_option maxRecDepth 100000 in
set_option maxHeartbeats 3200000 in
theorem spec_RatSub (w : World) (B : Nat) (hB : B ≤ w.heap.size) (s : Bool) (A : Option Addr) (n c : Nat) (xs : List Int) (Rx : RdI w B A n xs) (D : Option Addr) (m k : Nat) (ds : List Int) (Rd' : RdI w B D m ds) (t : Bool) (A' : Option Addr) (n' c' : Nat) (ys : List Int) (Ry : RdI w B A' n' ys) (D' : Option Addr) (m' k' : Nat) (es : List Int) (Re' : RdI w B D' m' es) (hcy : n' ≤ c' ∧ c' ≤ maxLen) :
    Calls Try.prog 16 #[.agg #[.bool s, .slice A n c, .slice D m k], .agg #[.bool t, .slice A' n' c', .slice D' m' k']] w fun e w' => RatRes 3 w w' e (subR s xs ds t ys es) := by
  have HNO := hide (subR_noR (s := s) (t := t) (xs := xs) (ds := ds) (ys := ys) (es := es))
  have HOK := hide (subR_okR (s := s) (t := t) (xs := xs) (ds := ds) (ys := ys) (es := es))
  generalize subR s xs ds t ys es = Z at HNO HOK ⊢
  obtain ⟨W0, hW0⟩ : ∃ W0, W0 = (((w.alloc (.cells #[.bool s, .slice A n c, .slice D m k] 32)).alloc (.cells #[.bool t, .slice A' n' c', .slice D' m' k'] 32)).alloc (.cells #[.bool false, .slice none 0 0, .slice none 0 0] 32)) := ⟨_, rfl⟩
  have hb0 : Below w.heap.size w W0 := by rw [hW0]; exact below_alloc (below_alloc (below_new _ _) _) _
  have kx : Box W0 (w.heap.size) 32 #[.bool s, .slice A n c, .slice D m k] := by rw [hW0]; exact ((Box.last _ _ _ rfl).alloc _).alloc _
  have ky : Box W0 (w.heap.size + 1) 32 #[.bool t, .slice A' n' c', .slice D' m' k'] := by rw [hW0]; exact (Box.last _ _ _ (alloc_size _ _).symm).alloc _
  have kr : Box W0 (w.heap.size + 2) 32 #[.bool false, .slice none 0 0, .slice none 0 0] := by rw [hW0]; exact Box.last _ _ _ (by rw [alloc_size, alloc_size])
  have hs0 : W0.heap.size = w.heap.size + 3 := by rw [hW0, alloc_size, alloc_size, alloc_size]
  go_enter Try.func16, Try.ntmps16
  go_upto_region 1 with fail
  rw [← hW0]
  clear hW0
  obtain ⟨a0, a1, a2⟩ := kx.cells3
  obtain ⟨b0, b1, b2⟩ := ky.cells3
  go_wp2_with fail
  refine (spec_RatOk W0 B (by omega) s A n c xs (Rx.below (hb0.mono hB)) D m k ds (Rd'.below (hb0.mono hB))).mono ?_
  rintro e w1 ⟨rfl, hb1⟩
  have kx1 := kx.below hb1 kx.lt
  have ky1 := ky.below hb1 ky.lt
  have kr1 := kr.below hb1 kr.lt
  have hs1 := hb1.size
  have hb1' := below_then hb0 hb1
  clear a0 a1 a2 b0 b1 b2 kx ky hb0 hb1 kr
  by_cases hr : ratB s xs ds = true
  · rw [hr]
    obtain ⟨a0, a1, a2⟩ := kx1.cells3
    obtain ⟨b0, b1, b2⟩ := ky1.cells3
    go_wp2_with fail
    refine (spec_RatOk w1 B (by omega) t A' n' c' ys (Ry.below (hb1'.mono hB)) D' m' k' es (Re'.below (hb1'.mono hB))).mono ?_
    rintro e w2 ⟨rfl, hb2⟩
    have kx2 := kx1.below hb2 kx1.lt
    have ky2 := ky1.below hb2 ky1.lt
    have kr2 := kr1.below hb2 kr1.lt
    have hs2 := hb2.size
    have hb2' := below_then hb1' hb2
    clear a0 a1 a2 b0 b1 b2 kx1 ky1 hb1' hb2 kr1
    by_cases hq : ratB t ys es = true
    · rw [hq]
      have hz := HOK.out hr hq
      obtain ⟨a0, a1, a2⟩ := kx2.cells3
      obtain ⟨b0, b1, b2⟩ := ky2.cells3
      clear HNO HOK
      have hl : zv (!t && !ys.isEmpty) ys = zv (!t) ys := zv_norm _ _
      rw [← hl] at hz
      clear hl
      subst hz
      have hq2 := neg_ratR hq
      have hyb := bigB_nat (ratB_big hq)
      have hel := Re'.1
      have hyl := Ry.1
      have HX := hide kx2
      have HY := hide ky2
      have HRR := hide kr2
      have RX := Rx.below (hb2'.mono hB)
      have RD := Rd'.below (hb2'.mono hB)
      have RY := Ry.below (hb2'.mono hB)
      have RE := Re'.below (hb2'.mono hB)
      have HC1 := hide (fun (W : World) (h : Below w2.heap.size w2 W) => spec_Neg W B (by have := h.size; omega) t A' n' c' ys (RY.below (h.mono (by omega))) D' m' k' es (RE.below (h.mono (by omega))) hcy hyb)
      have HC2 := hide (fun (W : World) (h : Below w2.heap.size w2 W) (A1 A2 : Option Addr) (c1 c2 : Nat) (R1 : RdI W W.heap.size A1 ys.length ys) (R2 : RdI W W.heap.size A2 es.length es) => spec_ratAdd W W.heap.size (Nat.le_refl _) s A n c xs (pair_up (RX.below (h.mono (by omega))) (by have := h.size; omega)) D m k ds (pair_up (RD.below (h.mono (by omega))) (by have := h.size; omega)) hr (!t && !ys.isEmpty) A1 _ c1 ys R1 A2 _ c2 es R2 hq2)
      have HYR := hide (show RdI w2 B A' ys.length ys from ⟨rfl, RY.2.1, by have := RY.2.2.1; omega, RY.2.2.2⟩)
      have HER := hide (show RdI w2 B D' es.length es from ⟨rfl, RE.2.1, by have := RE.2.2.1; omega, RE.2.2.2⟩)
      clear RX RD RY RE kx2 ky2 kr2 hr hq hq2 hyb hel hyl hcy
      have HS0 : Hid (Below w2.heap.size w2 w2.drew) := (Below.refl _ _).drew
      have HKS := hide (fun (W : World) (hq : Below w2.heap.size w2 W) => (⟨(HX.out.below hq HX.out.lt).cell 0, (HX.out.below hq HX.out.lt).cell 1, (HX.out.below hq HX.out.lt).cell 2, (HY.out.below hq HY.out.lt).cell 0, (HY.out.below hq HY.out.lt).cell 1, (HY.out.below hq HY.out.lt).cell 2⟩ : W.cell? ⟨w.heap.size, 0, none⟩ = some (.bool s) ∧ W.cell? ⟨w.heap.size, 1, none⟩ = some (.slice A n c) ∧ W.cell? ⟨w.heap.size, 2, none⟩ = some (.slice D m k) ∧ W.cell? ⟨w.heap.size + 1, 0, none⟩ = some (.bool t) ∧ W.cell? ⟨w.heap.size + 1, 1, none⟩ = some (.slice A' n' c') ∧ W.cell? ⟨w.heap.size + 1, 2, none⟩ = some (.slice D' m' k')))
      have HKR := hide (fun (W : World) (hq : Below w2.heap.size w2 W) => (⟨(HRR.out.below hq HRR.out.lt).cell 0, (HRR.out.below hq HRR.out.lt).cell 1, (HRR.out.below hq HRR.out.lt).cell 2, (HRR.out.below hq HRR.out.lt).frozen 0, (HRR.out.below hq HRR.out.lt).frozen 1, (HRR.out.below hq HRR.out.lt).frozen 2⟩ : W.cell? ⟨w.heap.size + 2, 0, none⟩ = some (.bool false) ∧ W.cell? ⟨w.heap.size + 2, 1, none⟩ = some (.slice none 0 0) ∧ W.cell? ⟨w.heap.size + 2, 2, none⟩ = some (.slice none 0 0) ∧ W.frozen? ⟨w.heap.size + 2, 0, none⟩ = false ∧ W.frozen? ⟨w.heap.size + 2, 1, none⟩ = false ∧ W.frozen? ⟨w.heap.size + 2, 2, none⟩ = false))
      have HKT := hide (fun (W : World) (hq : Below w2.heap.size w2 W) (x y z : Value) => (⟨(((((HX.out.below hq HX.out.lt).setv (show w.heap.size ≠ w.heap.size + 2 by omega) 0 x).setv (show w.heap.size ≠ w.heap.size + 2 by omega) 1 y).setv (show w.heap.size ≠ w.heap.size + 2 by omega) 2 z)).cell 0, (((((HX.out.below hq HX.out.lt).setv (show w.heap.size ≠ w.heap.size + 2 by omega) 0 x).setv (show w.heap.size ≠ w.heap.size + 2 by omega) 1 y).setv (show w.heap.size ≠ w.heap.size + 2 by omega) 2 z)).cell 1, (((((HX.out.below hq HX.out.lt).setv (show w.heap.size ≠ w.heap.size + 2 by omega) 0 x).setv (show w.heap.size ≠ w.heap.size + 2 by omega) 1 y).setv (show w.heap.size ≠ w.heap.size + 2 by omega) 2 z)).cell 2, (((((HY.out.below hq HY.out.lt).setv (show w.heap.size + 1 ≠ w.heap.size + 2 by omega) 0 x).setv (show w.heap.size + 1 ≠ w.heap.size + 2 by omega) 1 y).setv (show w.heap.size + 1 ≠ w.heap.size + 2 by omega) 2 z)).cell 0, (((((HY.out.below hq HY.out.lt).setv (show w.heap.size + 1 ≠ w.heap.size + 2 by omega) 0 x).setv (show w.heap.size + 1 ≠ w.heap.size + 2 by omega) 1 y).setv (show w.heap.size + 1 ≠ w.heap.size + 2 by omega) 2 z)).cell 1, (((((HY.out.below hq HY.out.lt).setv (show w.heap.size + 1 ≠ w.heap.size + 2 by omega) 0 x).setv (show w.heap.size + 1 ≠ w.heap.size + 2 by omega) 1 y).setv (show w.heap.size + 1 ≠ w.heap.size + 2 by omega) 2 z)).cell 2⟩ : (((W.setCell ⟨w.heap.size + 2, 0, none⟩ x).setCell ⟨w.heap.size + 2, 1, none⟩ y).setCell ⟨w.heap.size + 2, 2, none⟩ z).cell? ⟨w.heap.size, 0, none⟩ = some (.bool s) ∧ (((W.setCell ⟨w.heap.size + 2, 0, none⟩ x).setCell ⟨w.heap.size + 2, 1, none⟩ y).setCell ⟨w.heap.size + 2, 2, none⟩ z).cell? ⟨w.heap.size, 1, none⟩ = some (.slice A n c) ∧ (((W.setCell ⟨w.heap.size + 2, 0, none⟩ x).setCell ⟨w.heap.size + 2, 1, none⟩ y).setCell ⟨w.heap.size + 2, 2, none⟩ z).cell? ⟨w.heap.size, 2, none⟩ = some (.slice D m k) ∧ (((W.setCell ⟨w.heap.size + 2, 0, none⟩ x).setCell ⟨w.heap.size + 2, 1, none⟩ y).setCell ⟨w.heap.size + 2, 2, none⟩ z).cell? ⟨w.heap.size + 1, 0, none⟩ = some (.bool t) ∧ (((W.setCell ⟨w.heap.size + 2, 0, none⟩ x).setCell ⟨w.heap.size + 2, 1, none⟩ y).setCell ⟨w.heap.size + 2, 2, none⟩ z).cell? ⟨w.heap.size + 1, 1, none⟩ = some (.slice A' n' c') ∧ (((W.setCell ⟨w.heap.size + 2, 0, none⟩ x).setCell ⟨w.heap.size + 2, 1, none⟩ y).setCell ⟨w.heap.size + 2, 2, none⟩ z).cell? ⟨w.heap.size + 1, 2, none⟩ = some (.slice D' m' k')))
      go_wp2_with fail
      go_region_held3 (fun w' => w'.cell? ⟨w.heap.size, 0, none⟩ = some (.bool s) ∧ w'.cell? ⟨w.heap.size, 1, none⟩ = some (.slice A n c) ∧ w'.cell? ⟨w.heap.size, 2, none⟩ = some (.slice D m k) ∧ w'.cell? ⟨w.heap.size + 1, 0, none⟩ = some (.bool t) ∧ w'.cell? ⟨w.heap.size + 1, 1, none⟩ = some (.slice A' n' c') ∧ w'.cell? ⟨w.heap.size + 1, 2, none⟩ = some (.slice D' m' k'))
          (first | (with_reducible exact HKT.out _ HS2.out _ _ _) | (with_reducible exact HKS.out _ HS2.out) | (with_reducible exact HKS.out _ HS1.out) | (with_reducible exact HKS.out _ HS0.out))
          (first
            | (go_at_call 32; refine (HC1.out _ HS0.out).mono ?_; rintro e w3 ⟨v1, d1, rfl, p1, hb1⟩; obtain ⟨A1, c1, K1, k1, rfl, rfl⟩ := p1.form; have r1 := HYR.out.at_ p1.rd.1; have r2 := HER.out.at_ p1.rd.2; have HS1 := hide (below_then HS0.out hb1))
            | (go_at_call 30; refine (HC2.out _ HS1.out _ _ _ _ r1 r2).mono ?_; rintro e w4 ⟨v3, d3, rfl, p3, hb2⟩; obtain ⟨A3, c3, K3, k3, rfl, rfl⟩ := p3.form; have HS2 := hide (below_then HS1.out hb2); obtain ⟨z0, z1, z2, z3, z4, z5⟩ := HKR.out _ HS2.out))
      have hz1 := hb1.size
      have kr3 := HRR.out.below HS2.out HRR.out.lt
      have HO := hide (ret_rat kr3 p3 (below_then hb2' HS2.out) (x := (lowR (zv s xs * val es + zv (!t && !ys.isEmpty) ys * val ds) (natV ds * natV es)).1.1) (show w.heap.size ≤ w.heap.size + 2 by omega) (show w.heap.size + 2 < w3.heap.size by (try simp only [drew_size] at hz1); omega))
      clear p1 r1 r2 p3 hb1 hb2 z0 z1 z2 z3 z4 z5 kr3 hz1
      go_wp2_with fail
      refine bodyPost_ret (results_cell_row rfl _ _ (w.heap.size + 2) _ #[.bool (lowR (zv s xs * val es + zv (!t && !ys.isEmpty) ys * val ds) (natV ds * natV es)).1.1, .slice A3 (lowR (zv s xs * val es + zv (!t && !ys.isEmpty) ys * val ds) (natV ds * natV es)).1.2.length c3, .slice K3 (lowR (zv s xs * val es + zv (!t && !ys.isEmpty) ys * val ds) (natV ds * natV es)).2.length k3] (0, 0) _ rfl HO.out.1 Try.underlying32 rfl Try.sizeRat) rfl ?_
      exact ⟨_, _, rfl, HO.out.2.1, HO.out.2.2⟩
    · have hq : ratB t ys es = false := by simpa using hq
      have hz := HNO.out (.inr hq)
      subst hz
      rw [hq]
      clear HNO HOK
      have HO := hide (ret_rat0 (F := 3) kr2 hb2' (show w.heap.size ≤ w.heap.size + 2 by omega))
      obtain ⟨z0, z1, z2, z3, z4, z5⟩ := kr2.facts3
      clear kr2 hb2'
      go_wp2_with fail
      refine bodyPost_ret (results_cell_row rfl _ _ (w.heap.size + 2) _ #[.bool false, .slice none 0 0, .slice none 0 0] (0, 0) _ rfl HO.out.1 Try.underlying32 rfl Try.sizeRat) rfl ?_
      exact ⟨_, _, rfl, HO.out.2.1, HO.out.2.2⟩
  · have hr : ratB s xs ds = false := by simpa using hr
    have hz := HNO.out (.inl hr)
    subst hz
    rw [hr]
    clear HNO HOK
    have HO := hide (ret_rat0 (F := 3) kr1 hb1' (show w.heap.size ≤ w.heap.size + 2 by omega))
    obtain ⟨z0, z1, z2, z3, z4, z5⟩ := kr1.facts3
    clear kr1 hb1'
    go_wp2_with fail
    refine bodyPost_ret (results_cell_row rfl _ _ (w.heap.size + 2) _ #[.bool false, .slice none 0 0, .slice none 0 0] (0, 0) _ rfl HO.out.1 Try.underlying32 rfl Try.sizeRat) rfl ?_
    exact ⟨_, _, rfl, HO.out.2.1, HO.out.2.2⟩
end Go.Proofs.Ytcpncoonbdbkmaa
