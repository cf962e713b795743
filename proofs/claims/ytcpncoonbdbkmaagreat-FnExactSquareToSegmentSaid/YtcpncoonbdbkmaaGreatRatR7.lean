/-
  The reference's fractions: contracts (7): RatAdd, RatMul, RatSub, RatDiv, RatCmp, RatSign, RatNeg, RatMin, RatMax.
-/
import Derived.Test.YtcpncoonbdbkmaaGreatRatR6
namespace Go.Proofs.YtcpncoonbdbkmaaGreat
open Go.RowKit
set_option linter.unusedVariables false
theorem addR_okR {s t : Bool} {xs ds ys es : List Int} (h : ratB s xs ds = true) (k : ratB t ys es = true) : addR s xs ds t ys es = lowR (zv s xs * val es + zv t ys * val ds) (natV ds * natV es) := by rw [addR, h, k]; rfl
theorem subR_okR {s t : Bool} {xs ds ys es : List Int} (h : ratB s xs ds = true) (k : ratB t ys es = true) : subR s xs ds t ys es = lowR (zv s xs * val es + zv (!t) ys * val ds) (natV ds * natV es) := by rw [subR, h, k]; rfl
theorem mulR_okR {s t : Bool} {xs ds ys es : List Int} (h : ratB s xs ds = true) (k : ratB t ys es = true) : mulR s xs ds t ys es = lowR (zv s xs * zv t ys) (natV ds * natV es) := by rw [mulR, h, k]; rfl
theorem divR_okR {s t : Bool} {xs ds ys es : List Int} (h : ratB s xs ds = true) (k : ratB t ys es = true) : divR s xs ds t ys es = lowR (zv (s != t) xs * val es) (natV ys * natV ds) := by rw [divR, h, k]; rfl
theorem addR_noR {s t : Bool} {xs ds ys es : List Int} (h : ratB s xs ds = false ∨ ratB t ys es = false) : addR s xs ds t ys es = noR := by rw [addR, if_neg]; rcases h with h | h <;> simp [h]
theorem subR_noR {s t : Bool} {xs ds ys es : List Int} (h : ratB s xs ds = false ∨ ratB t ys es = false) : subR s xs ds t ys es = noR := by rw [subR, if_neg]; rcases h with h | h <;> simp [h]
theorem mulR_noR {s t : Bool} {xs ds ys es : List Int} (h : ratB s xs ds = false ∨ ratB t ys es = false) : mulR s xs ds t ys es = noR := by rw [mulR, if_neg]; rcases h with h | h <;> simp [h]
theorem divR_noR {s t : Bool} {xs ds ys es : List Int} (h : ratB s xs ds = false ∨ ratB t ys es = false) : divR s xs ds t ys es = noR := by rw [divR, if_neg]; rcases h with h | h <;> simp [h]
theorem minR_noR {s t : Bool} {xs ds ys es : List Int} (h : ratB s xs ds = false ∨ ratB t ys es = false) : minR s xs ds t ys es = noR := by rw [minR, if_neg]; rcases h with h | h <;> simp [h]
theorem maxR_noR {s t : Bool} {xs ds ys es : List Int} (h : ratB s xs ds = false ∨ ratB t ys es = false) : maxR s xs ds t ys es = noR := by rw [maxR, if_neg]; rcases h with h | h <;> simp [h]
theorem minR_okR {s t : Bool} {xs ds ys es : List Int} (h : ratB s xs ds = true) (k : ratB t ys es = true) : minR s xs ds t ys es = if cmpW s xs ds t ys es ≤ 0 then ((s, xs), ds) else ((t, ys), es) := by rw [minR, h, k]; rfl
theorem maxR_okR {s t : Bool} {xs ds ys es : List Int} (h : ratB s xs ds = true) (k : ratB t ys es = true) : maxR s xs ds t ys es = if 0 ≤ cmpW s xs ds t ys es then ((s, xs), ds) else ((t, ys), es) := by rw [maxR, h, k]; rfl
theorem neg_ratR {t : Bool} {ys es : List Int} (h : ratB t ys es = true) : ratB (!t && !ys.isEmpty) ys es = true := by
  have h1 := (neg_rat h).1
  rw [← negZ_ok (ratB_big h)] at h1
  exact h1
theorem signR_noR {s : Bool} {xs ds : List Int} (h : ratB s xs ds = false ∨ xs.length = 0) : signR s xs ds = 0 := by
  rcases h with h | h
  · rw [signR, h]; rfl
  · have e := List.eq_nil_of_length_eq_zero h
    subst e
    rw [signR]; split
    · cases s <;> rfl
    · rfl
theorem signR_okR {s : Bool} {xs ds : List Int} (h : ratB s xs ds = true) (h0 : 0 < xs.length) : signR s xs ds = if s then -1 else 1 := by
  have hb := ratB_big h
  have hn := bigB_nat hb
  have hp : 0 < natV xs := natV_pos hn (notE rfl h0)
  rw [signR, h, zv_nat hn]
  cases s
  · exact cmpV_gt (by show (0 : Int) < (natV xs : Int); omega)
  · exact cmpV_lt (by show -(natV xs : Int) < 0; omega)
set_option maxRecDepth 100000 in
set_option maxHeartbeats 3200000 in
theorem spec_RatAdd (w : World) (B : Nat) (hB : B ≤ w.heap.size) (s : Bool) (A : Option Addr) (n c : Nat) (xs : List Int) (Rx : RdI w B A n xs) (D : Option Addr) (m k : Nat) (ds : List Int) (Rd' : RdI w B D m ds) (t : Bool) (A' : Option Addr) (n' c' : Nat) (ys : List Int) (Ry : RdI w B A' n' ys) (D' : Option Addr) (m' k' : Nat) (es : List Int) (Re' : RdI w B D' m' es) :
    Calls Tryz.prog 64 #[.agg #[.bool s, .slice A n c, .slice D m k], .agg #[.bool t, .slice A' n' c', .slice D' m' k']] w fun e w' => RatRes 3 w w' e (addR s xs ds t ys es) := by
  have HNO := hide (addR_noR (s := s) (t := t) (xs := xs) (ds := ds) (ys := ys) (es := es))
  have HOK := hide (addR_okR (s := s) (t := t) (xs := xs) (ds := ds) (ys := ys) (es := es))
  generalize addR s xs ds t ys es = Z at HNO HOK ⊢
  obtain ⟨W0, hW0⟩ : ∃ W0, W0 = (((w.alloc (.cells #[.bool s, .slice A n c, .slice D m k] 27)).alloc (.cells #[.bool t, .slice A' n' c', .slice D' m' k'] 27)).alloc (.cells #[.bool false, .slice none 0 0, .slice none 0 0] 27)) := ⟨_, rfl⟩
  have hb0 : Below w.heap.size w W0 := by rw [hW0]; exact below_alloc (below_alloc (below_new _ _) _) _
  have kx : Box W0 (w.heap.size) 27 #[.bool s, .slice A n c, .slice D m k] := by rw [hW0]; exact ((Box.last _ _ _ rfl).alloc _).alloc _
  have ky : Box W0 (w.heap.size + 1) 27 #[.bool t, .slice A' n' c', .slice D' m' k'] := by rw [hW0]; exact (Box.last _ _ _ (alloc_size _ _).symm).alloc _
  have kr : Box W0 (w.heap.size + 2) 27 #[.bool false, .slice none 0 0, .slice none 0 0] := by rw [hW0]; exact Box.last _ _ _ (by rw [alloc_size, alloc_size])
  have hs0 : W0.heap.size = w.heap.size + 3 := by rw [hW0, alloc_size, alloc_size, alloc_size]
  go_enter Tryz.func64, Tryz.ntmps64
  go_upto_region 1 with fail
  rw [← hW0]
  clear hW0
  obtain ⟨a0, a1, a2⟩ := kx.cells3
  obtain ⟨b0, b1, b2⟩ := ky.cells3
  go_wp2_with fail
  refine (spec_RatOk W0 B (by omega) s A n c xs (Rx.below (hb0.mono hB)) D m k ds (Rd'.below (hb0.mono hB))).mono ?_
  rintro e w1 ⟨rfl, hb1⟩
  have kx1 := kx.below hb1 kx.lt
  have ky1 := ky.below hb1 ky.lt
  have kr1 := kr.below hb1 kr.lt
  have hs1 := hb1.size
  have hb1' := below_then hb0 hb1
  clear a0 a1 a2 b0 b1 b2 kx ky hb0 hb1 kr
  by_cases hr : ratB s xs ds = true
  · rw [hr]
    obtain ⟨a0, a1, a2⟩ := kx1.cells3
    obtain ⟨b0, b1, b2⟩ := ky1.cells3
    go_wp2_with fail
    refine (spec_RatOk w1 B (by omega) t A' n' c' ys (Ry.below (hb1'.mono hB)) D' m' k' es (Re'.below (hb1'.mono hB))).mono ?_
    rintro e w2 ⟨rfl, hb2⟩
    have kx2 := kx1.below hb2 kx1.lt
    have ky2 := ky1.below hb2 ky1.lt
    have kr2 := kr1.below hb2 kr1.lt
    have hs2 := hb2.size
    have hb2' := below_then hb1' hb2
    clear a0 a1 a2 b0 b1 b2 kx1 ky1 hb1' hb2 kr1
    by_cases hq : ratB t ys es = true
    · rw [hq]
      have hz := HOK.out hr hq
      obtain ⟨a0, a1, a2⟩ := kx2.cells3
      obtain ⟨b0, b1, b2⟩ := ky2.cells3
      clear HNO HOK
      subst hz
      have HCP := hide (spec_ratAdd w2 B (by omega) s A n c xs (Rx.below (hb2'.mono hB)) D m k ds (Rd'.below (hb2'.mono hB)) hr t A' n' c' ys (Ry.below (hb2'.mono hB)) D' m' k' es (Re'.below (hb2'.mono hB)) hq)
      clear hr hq
      go_wp2_with fail
      refine (HCP.out).mono ?_
      rintro e w3 ⟨v3, d3, rfl, p3, hb3⟩
      obtain ⟨A3, c3, K3, k3, rfl, rfl⟩ := p3.form
      have kr3 := kr2.below hb3 kr2.lt
      have hb3' := below_then hb2' hb3
      obtain ⟨z0, z1, z2, z3, z4, z5⟩ := kr3.facts3
      have HO := hide (ret_rat kr3 p3 hb3' (x := (lowR (zv s xs * val es + zv t ys * val ds) (natV ds * natV es)).1.1) (show w.heap.size ≤ w.heap.size + 2 by omega) (by omega))
      clear kr3 p3 hb3' hb3 kr2 HCP
      go_wp2_with fail
      refine bodyPost_ret (results_cell_row rfl _ _ (w.heap.size + 2) _ #[.bool (lowR (zv s xs * val es + zv t ys * val ds) (natV ds * natV es)).1.1, .slice A3 (lowR (zv s xs * val es + zv t ys * val ds) (natV ds * natV es)).1.2.length c3, .slice K3 (lowR (zv s xs * val es + zv t ys * val ds) (natV ds * natV es)).2.length k3] (0, 0) _ rfl HO.out.1 Tryz.underlying27 rfl Tryz.sizeRat) rfl ?_
      exact ⟨_, _, rfl, HO.out.2.1, HO.out.2.2⟩
    · have hq : ratB t ys es = false := by simpa using hq
      have hz := HNO.out (.inr hq)
      subst hz
      rw [hq]
      clear HNO HOK
      have HO := hide (ret_rat0 (F := 3) kr2 hb2' (show w.heap.size ≤ w.heap.size + 2 by omega))
      obtain ⟨z0, z1, z2, z3, z4, z5⟩ := kr2.facts3
      clear kr2 hb2'
      go_wp2_with fail
      refine bodyPost_ret (results_cell_row rfl _ _ (w.heap.size + 2) _ #[.bool false, .slice none 0 0, .slice none 0 0] (0, 0) _ rfl HO.out.1 Tryz.underlying27 rfl Tryz.sizeRat) rfl ?_
      exact ⟨_, _, rfl, HO.out.2.1, HO.out.2.2⟩
  · have hr : ratB s xs ds = false := by simpa using hr
    have hz := HNO.out (.inl hr)
    subst hz
    rw [hr]
    clear HNO HOK
    have HO := hide (ret_rat0 (F := 3) kr1 hb1' (show w.heap.size ≤ w.heap.size + 2 by omega))
    obtain ⟨z0, z1, z2, z3, z4, z5⟩ := kr1.facts3
    clear kr1 hb1'
    go_wp2_with fail
    refine bodyPost_ret (results_cell_row rfl _ _ (w.heap.size + 2) _ #[.bool false, .slice none 0 0, .slice none 0 0] (0, 0) _ rfl HO.out.1 Tryz.underlying27 rfl Tryz.sizeRat) rfl ?_
    exact ⟨_, _, rfl, HO.out.2.1, HO.out.2.2⟩
set_option maxRecDepth 100000 in
set_option maxHeartbeats 3200000 in
theorem spec_RatMul (w : World) (B : Nat) (hB : B ≤ w.heap.size) (s : Bool) (A : Option Addr) (n c : Nat) (xs : List Int) (Rx : RdI w B A n xs) (D : Option Addr) (m k : Nat) (ds : List Int) (Rd' : RdI w B D m ds) (t : Bool) (A' : Option Addr) (n' c' : Nat) (ys : List Int) (Ry : RdI w B A' n' ys) (D' : Option Addr) (m' k' : Nat) (es : List Int) (Re' : RdI w B D' m' es) :
    Calls Tryz.prog 65 #[.agg #[.bool s, .slice A n c, .slice D m k], .agg #[.bool t, .slice A' n' c', .slice D' m' k']] w fun e w' => RatRes 3 w w' e (mulR s xs ds t ys es) := by
  have HNO := hide (mulR_noR (s := s) (t := t) (xs := xs) (ds := ds) (ys := ys) (es := es))
  have HOK := hide (mulR_okR (s := s) (t := t) (xs := xs) (ds := ds) (ys := ys) (es := es))
  generalize mulR s xs ds t ys es = Z at HNO HOK ⊢
  obtain ⟨W0, hW0⟩ : ∃ W0, W0 = (((w.alloc (.cells #[.bool s, .slice A n c, .slice D m k] 27)).alloc (.cells #[.bool t, .slice A' n' c', .slice D' m' k'] 27)).alloc (.cells #[.bool false, .slice none 0 0, .slice none 0 0] 27)) := ⟨_, rfl⟩
  have hb0 : Below w.heap.size w W0 := by rw [hW0]; exact below_alloc (below_alloc (below_new _ _) _) _
  have kx : Box W0 (w.heap.size) 27 #[.bool s, .slice A n c, .slice D m k] := by rw [hW0]; exact ((Box.last _ _ _ rfl).alloc _).alloc _
  have ky : Box W0 (w.heap.size + 1) 27 #[.bool t, .slice A' n' c', .slice D' m' k'] := by rw [hW0]; exact (Box.last _ _ _ (alloc_size _ _).symm).alloc _
  have kr : Box W0 (w.heap.size + 2) 27 #[.bool false, .slice none 0 0, .slice none 0 0] := by rw [hW0]; exact Box.last _ _ _ (by rw [alloc_size, alloc_size])
  have hs0 : W0.heap.size = w.heap.size + 3 := by rw [hW0, alloc_size, alloc_size, alloc_size]
  go_enter Tryz.func65, Tryz.ntmps65
  go_upto_region 1 with fail
  rw [← hW0]
  clear hW0
  obtain ⟨a0, a1, a2⟩ := kx.cells3
  obtain ⟨b0, b1, b2⟩ := ky.cells3
  go_wp2_with fail
  refine (spec_RatOk W0 B (by omega) s A n c xs (Rx.below (hb0.mono hB)) D m k ds (Rd'.below (hb0.mono hB))).mono ?_
  rintro e w1 ⟨rfl, hb1⟩
  have kx1 := kx.below hb1 kx.lt
  have ky1 := ky.below hb1 ky.lt
  have kr1 := kr.below hb1 kr.lt
  have hs1 := hb1.size
  have hb1' := below_then hb0 hb1
  clear a0 a1 a2 b0 b1 b2 kx ky hb0 hb1 kr
  by_cases hr : ratB s xs ds = true
  · rw [hr]
    obtain ⟨a0, a1, a2⟩ := kx1.cells3
    obtain ⟨b0, b1, b2⟩ := ky1.cells3
    go_wp2_with fail
    refine (spec_RatOk w1 B (by omega) t A' n' c' ys (Ry.below (hb1'.mono hB)) D' m' k' es (Re'.below (hb1'.mono hB))).mono ?_
    rintro e w2 ⟨rfl, hb2⟩
    have kx2 := kx1.below hb2 kx1.lt
    have ky2 := ky1.below hb2 ky1.lt
    have kr2 := kr1.below hb2 kr1.lt
    have hs2 := hb2.size
    have hb2' := below_then hb1' hb2
    clear a0 a1 a2 b0 b1 b2 kx1 ky1 hb1' hb2 kr1
    by_cases hq : ratB t ys es = true
    · rw [hq]
      have hz := HOK.out hr hq
      obtain ⟨a0, a1, a2⟩ := kx2.cells3
      obtain ⟨b0, b1, b2⟩ := ky2.cells3
      clear HNO HOK
      subst hz
      have HCP := hide (spec_ratMul w2 B (by omega) s A n c xs (Rx.below (hb2'.mono hB)) D m k ds (Rd'.below (hb2'.mono hB)) hr t A' n' c' ys (Ry.below (hb2'.mono hB)) D' m' k' es (Re'.below (hb2'.mono hB)) hq)
      clear hr hq
      go_wp2_with fail
      refine (HCP.out).mono ?_
      rintro e w3 ⟨v3, d3, rfl, p3, hb3⟩
      obtain ⟨A3, c3, K3, k3, rfl, rfl⟩ := p3.form
      have kr3 := kr2.below hb3 kr2.lt
      have hb3' := below_then hb2' hb3
      obtain ⟨z0, z1, z2, z3, z4, z5⟩ := kr3.facts3
      have HO := hide (ret_rat kr3 p3 hb3' (x := (lowR (zv s xs * zv t ys) (natV ds * natV es)).1.1) (show w.heap.size ≤ w.heap.size + 2 by omega) (by omega))
      clear kr3 p3 hb3' hb3 kr2 HCP
      go_wp2_with fail
      refine bodyPost_ret (results_cell_row rfl _ _ (w.heap.size + 2) _ #[.bool (lowR (zv s xs * zv t ys) (natV ds * natV es)).1.1, .slice A3 (lowR (zv s xs * zv t ys) (natV ds * natV es)).1.2.length c3, .slice K3 (lowR (zv s xs * zv t ys) (natV ds * natV es)).2.length k3] (0, 0) _ rfl HO.out.1 Tryz.underlying27 rfl Tryz.sizeRat) rfl ?_
      exact ⟨_, _, rfl, HO.out.2.1, HO.out.2.2⟩
    · have hq : ratB t ys es = false := by simpa using hq
      have hz := HNO.out (.inr hq)
      subst hz
      rw [hq]
      clear HNO HOK
      have HO := hide (ret_rat0 (F := 3) kr2 hb2' (show w.heap.size ≤ w.heap.size + 2 by omega))
      obtain ⟨z0, z1, z2, z3, z4, z5⟩ := kr2.facts3
      clear kr2 hb2'
      go_wp2_with fail
      refine bodyPost_ret (results_cell_row rfl _ _ (w.heap.size + 2) _ #[.bool false, .slice none 0 0, .slice none 0 0] (0, 0) _ rfl HO.out.1 Tryz.underlying27 rfl Tryz.sizeRat) rfl ?_
      exact ⟨_, _, rfl, HO.out.2.1, HO.out.2.2⟩
  · have hr : ratB s xs ds = false := by simpa using hr
    have hz := HNO.out (.inl hr)
    subst hz
    rw [hr]
    clear HNO HOK
    have HO := hide (ret_rat0 (F := 3) kr1 hb1' (show w.heap.size ≤ w.heap.size + 2 by omega))
    obtain ⟨z0, z1, z2, z3, z4, z5⟩ := kr1.facts3
    clear kr1 hb1'
    go_wp2_with fail
    refine bodyPost_ret (results_cell_row rfl _ _ (w.heap.size + 2) _ #[.bool false, .slice none 0 0, .slice none 0 0] (0, 0) _ rfl HO.out.1 Tryz.underlying27 rfl Tryz.sizeRat) rfl ?_
    exact ⟨_, _, rfl, HO.out.2.1, HO.out.2.2⟩
set_option maxRecDepth 100000 in
set_option maxHeartbeats 3200000 in
theorem spec_RatSub (w : World) (B : Nat) (hB : B ≤ w.heap.size) (s : Bool) (A : Option Addr) (n c : Nat) (xs : List Int) (Rx : RdI w B A n xs) (D : Option Addr) (m k : Nat) (ds : List Int) (Rd' : RdI w B D m ds) (t : Bool) (A' : Option Addr) (n' c' : Nat) (ys : List Int) (Ry : RdI w B A' n' ys) (D' : Option Addr) (m' k' : Nat) (es : List Int) (Re' : RdI w B D' m' es) (hcy : n' ≤ c' ∧ c' ≤ maxLen) :
    Calls Tryz.prog 71 #[.agg #[.bool s, .slice A n c, .slice D m k], .agg #[.bool t, .slice A' n' c', .slice D' m' k']] w fun e w' => RatRes 3 w w' e (subR s xs ds t ys es) := by
  have HNO := hide (subR_noR (s := s) (t := t) (xs := xs) (ds := ds) (ys := ys) (es := es))
  have HOK := hide (subR_okR (s := s) (t := t) (xs := xs) (ds := ds) (ys := ys) (es := es))
  generalize subR s xs ds t ys es = Z at HNO HOK ⊢
  obtain ⟨W0, hW0⟩ : ∃ W0, W0 = (((w.alloc (.cells #[.bool s, .slice A n c, .slice D m k] 27)).alloc (.cells #[.bool t, .slice A' n' c', .slice D' m' k'] 27)).alloc (.cells #[.bool false, .slice none 0 0, .slice none 0 0] 27)) := ⟨_, rfl⟩
  have hb0 : Below w.heap.size w W0 := by rw [hW0]; exact below_alloc (below_alloc (below_new _ _) _) _
  have kx : Box W0 (w.heap.size) 27 #[.bool s, .slice A n c, .slice D m k] := by rw [hW0]; exact ((Box.last _ _ _ rfl).alloc _).alloc _
  have ky : Box W0 (w.heap.size + 1) 27 #[.bool t, .slice A' n' c', .slice D' m' k'] := by rw [hW0]; exact (Box.last _ _ _ (alloc_size _ _).symm).alloc _
  have kr : Box W0 (w.heap.size + 2) 27 #[.bool false, .slice none 0 0, .slice none 0 0] := by rw [hW0]; exact Box.last _ _ _ (by rw [alloc_size, alloc_size])
  have hs0 : W0.heap.size = w.heap.size + 3 := by rw [hW0, alloc_size, alloc_size, alloc_size]
  go_enter Tryz.func71, Tryz.ntmps71
  go_upto_region 1 with fail
  rw [← hW0]
  clear hW0
  obtain ⟨a0, a1, a2⟩ := kx.cells3
  obtain ⟨b0, b1, b2⟩ := ky.cells3
  go_wp2_with fail
  refine (spec_RatOk W0 B (by omega) s A n c xs (Rx.below (hb0.mono hB)) D m k ds (Rd'.below (hb0.mono hB))).mono ?_
  rintro e w1 ⟨rfl, hb1⟩
  have kx1 := kx.below hb1 kx.lt
  have ky1 := ky.below hb1 ky.lt
  have kr1 := kr.below hb1 kr.lt
  have hs1 := hb1.size
  have hb1' := below_then hb0 hb1
  clear a0 a1 a2 b0 b1 b2 kx ky hb0 hb1 kr
  by_cases hr : ratB s xs ds = true
  · rw [hr]
    obtain ⟨a0, a1, a2⟩ := kx1.cells3
    obtain ⟨b0, b1, b2⟩ := ky1.cells3
    go_wp2_with fail
    refine (spec_RatOk w1 B (by omega) t A' n' c' ys (Ry.below (hb1'.mono hB)) D' m' k' es (Re'.below (hb1'.mono hB))).mono ?_
    rintro e w2 ⟨rfl, hb2⟩
    have kx2 := kx1.below hb2 kx1.lt
    have ky2 := ky1.below hb2 ky1.lt
    have kr2 := kr1.below hb2 kr1.lt
    have hs2 := hb2.size
    have hb2' := below_then hb1' hb2
    clear a0 a1 a2 b0 b1 b2 kx1 ky1 hb1' hb2 kr1
    by_cases hq : ratB t ys es = true
    · rw [hq]
      have hz := HOK.out hr hq
      obtain ⟨a0, a1, a2⟩ := kx2.cells3
      obtain ⟨b0, b1, b2⟩ := ky2.cells3
      clear HNO HOK
      have hl : zv (!t && !ys.isEmpty) ys = zv (!t) ys := zv_norm _ _
      rw [← hl] at hz
      clear hl
      subst hz
      have hq2 := neg_ratR hq
      have hyb := bigB_nat (ratB_big hq)
      have hel := Re'.1
      have hyl := Ry.1
      have HX := hide kx2
      have HY := hide ky2
      have HRR := hide kr2
      have RX := Rx.below (hb2'.mono hB)
      have RD := Rd'.below (hb2'.mono hB)
      have RY := Ry.below (hb2'.mono hB)
      have RE := Re'.below (hb2'.mono hB)
      have HC1 := hide (fun (W : World) (h : Below w2.heap.size w2 W) => spec_Neg W B (by have := h.size; omega) t A' n' c' ys (RY.below (h.mono (by omega))) D' m' k' es (RE.below (h.mono (by omega))) hcy hyb)
      have HC2 := hide (fun (W : World) (h : Below w2.heap.size w2 W) (A1 A2 : Option Addr) (c1 c2 : Nat) (R1 : RdI W W.heap.size A1 ys.length ys) (R2 : RdI W W.heap.size A2 es.length es) => spec_ratAdd W W.heap.size (Nat.le_refl _) s A n c xs (pair_up (RX.below (h.mono (by omega))) (by have := h.size; omega)) D m k ds (pair_up (RD.below (h.mono (by omega))) (by have := h.size; omega)) hr (!t && !ys.isEmpty) A1 _ c1 ys R1 A2 _ c2 es R2 hq2)
      have HYR := hide (show RdI w2 B A' ys.length ys from ⟨rfl, RY.2.1, by have := RY.2.2.1; omega, RY.2.2.2⟩)
      have HER := hide (show RdI w2 B D' es.length es from ⟨rfl, RE.2.1, by have := RE.2.2.1; omega, RE.2.2.2⟩)
      clear RX RD RY RE kx2 ky2 kr2 hr hq hq2 hyb hel hyl hcy
      have HS0 : Hid (Below w2.heap.size w2 w2.drew) := (Below.refl _ _).drew
      have HKS := hide (fun (W : World) (hq : Below w2.heap.size w2 W) => (⟨(HX.out.below hq HX.out.lt).cell 0, (HX.out.below hq HX.out.lt).cell 1, (HX.out.below hq HX.out.lt).cell 2, (HY.out.below hq HY.out.lt).cell 0, (HY.out.below hq HY.out.lt).cell 1, (HY.out.below hq HY.out.lt).cell 2⟩ : W.cell? ⟨w.heap.size, 0, none⟩ = some (.bool s) ∧ W.cell? ⟨w.heap.size, 1, none⟩ = some (.slice A n c) ∧ W.cell? ⟨w.heap.size, 2, none⟩ = some (.slice D m k) ∧ W.cell? ⟨w.heap.size + 1, 0, none⟩ = some (.bool t) ∧ W.cell? ⟨w.heap.size + 1, 1, none⟩ = some (.slice A' n' c') ∧ W.cell? ⟨w.heap.size + 1, 2, none⟩ = some (.slice D' m' k')))
      have HKR := hide (fun (W : World) (hq : Below w2.heap.size w2 W) => (⟨(HRR.out.below hq HRR.out.lt).cell 0, (HRR.out.below hq HRR.out.lt).cell 1, (HRR.out.below hq HRR.out.lt).cell 2, (HRR.out.below hq HRR.out.lt).frozen 0, (HRR.out.below hq HRR.out.lt).frozen 1, (HRR.out.below hq HRR.out.lt).frozen 2⟩ : W.cell? ⟨w.heap.size + 2, 0, none⟩ = some (.bool false) ∧ W.cell? ⟨w.heap.size + 2, 1, none⟩ = some (.slice none 0 0) ∧ W.cell? ⟨w.heap.size + 2, 2, none⟩ = some (.slice none 0 0) ∧ W.frozen? ⟨w.heap.size + 2, 0, none⟩ = false ∧ W.frozen? ⟨w.heap.size + 2, 1, none⟩ = false ∧ W.frozen? ⟨w.heap.size + 2, 2, none⟩ = false))
      have HKT := hide (fun (W : World) (hq : Below w2.heap.size w2 W) (x y z : Value) => (⟨(((((HX.out.below hq HX.out.lt).setv (show w.heap.size ≠ w.heap.size + 2 by omega) 0 x).setv (show w.heap.size ≠ w.heap.size + 2 by omega) 1 y).setv (show w.heap.size ≠ w.heap.size + 2 by omega) 2 z)).cell 0, (((((HX.out.below hq HX.out.lt).setv (show w.heap.size ≠ w.heap.size + 2 by omega) 0 x).setv (show w.heap.size ≠ w.heap.size + 2 by omega) 1 y).setv (show w.heap.size ≠ w.heap.size + 2 by omega) 2 z)).cell 1, (((((HX.out.below hq HX.out.lt).setv (show w.heap.size ≠ w.heap.size + 2 by omega) 0 x).setv (show w.heap.size ≠ w.heap.size + 2 by omega) 1 y).setv (show w.heap.size ≠ w.heap.size + 2 by omega) 2 z)).cell 2, (((((HY.out.below hq HY.out.lt).setv (show w.heap.size + 1 ≠ w.heap.size + 2 by omega) 0 x).setv (show w.heap.size + 1 ≠ w.heap.size + 2 by omega) 1 y).setv (show w.heap.size + 1 ≠ w.heap.size + 2 by omega) 2 z)).cell 0, (((((HY.out.below hq HY.out.lt).setv (show w.heap.size + 1 ≠ w.heap.size + 2 by omega) 0 x).setv (show w.heap.size + 1 ≠ w.heap.size + 2 by omega) 1 y).setv (show w.heap.size + 1 ≠ w.heap.size + 2 by omega) 2 z)).cell 1, (((((HY.out.below hq HY.out.lt).setv (show w.heap.size + 1 ≠ w.heap.size + 2 by omega) 0 x).setv (show w.heap.size + 1 ≠ w.heap.size + 2 by omega) 1 y).setv (show w.heap.size + 1 ≠ w.heap.size + 2 by omega) 2 z)).cell 2⟩ : (((W.setCell ⟨w.heap.size + 2, 0, none⟩ x).setCell ⟨w.heap.size + 2, 1, none⟩ y).setCell ⟨w.heap.size + 2, 2, none⟩ z).cell? ⟨w.heap.size, 0, none⟩ = some (.bool s) ∧ (((W.setCell ⟨w.heap.size + 2, 0, none⟩ x).setCell ⟨w.heap.size + 2, 1, none⟩ y).setCell ⟨w.heap.size + 2, 2, none⟩ z).cell? ⟨w.heap.size, 1, none⟩ = some (.slice A n c) ∧ (((W.setCell ⟨w.heap.size + 2, 0, none⟩ x).setCell ⟨w.heap.size + 2, 1, none⟩ y).setCell ⟨w.heap.size + 2, 2, none⟩ z).cell? ⟨w.heap.size, 2, none⟩ = some (.slice D m k) ∧ (((W.setCell ⟨w.heap.size + 2, 0, none⟩ x).setCell ⟨w.heap.size + 2, 1, none⟩ y).setCell ⟨w.heap.size + 2, 2, none⟩ z).cell? ⟨w.heap.size + 1, 0, none⟩ = some (.bool t) ∧ (((W.setCell ⟨w.heap.size + 2, 0, none⟩ x).setCell ⟨w.heap.size + 2, 1, none⟩ y).setCell ⟨w.heap.size + 2, 2, none⟩ z).cell? ⟨w.heap.size + 1, 1, none⟩ = some (.slice A' n' c') ∧ (((W.setCell ⟨w.heap.size + 2, 0, none⟩ x).setCell ⟨w.heap.size + 2, 1, none⟩ y).setCell ⟨w.heap.size + 2, 2, none⟩ z).cell? ⟨w.heap.size + 1, 2, none⟩ = some (.slice D' m' k')))
      go_wp2_with fail
      go_region_held3 (fun w' => w'.cell? ⟨w.heap.size, 0, none⟩ = some (.bool s) ∧ w'.cell? ⟨w.heap.size, 1, none⟩ = some (.slice A n c) ∧ w'.cell? ⟨w.heap.size, 2, none⟩ = some (.slice D m k) ∧ w'.cell? ⟨w.heap.size + 1, 0, none⟩ = some (.bool t) ∧ w'.cell? ⟨w.heap.size + 1, 1, none⟩ = some (.slice A' n' c') ∧ w'.cell? ⟨w.heap.size + 1, 2, none⟩ = some (.slice D' m' k'))
          (first | (with_reducible exact HKT.out _ HS2.out _ _ _) | (with_reducible exact HKS.out _ HS2.out) | (with_reducible exact HKS.out _ HS1.out) | (with_reducible exact HKS.out _ HS0.out))
          (first
            | (go_at_call 123; refine (HC1.out _ HS0.out).mono ?_; rintro e w3 ⟨v1, d1, rfl, p1, hb1⟩; obtain ⟨A1, c1, K1, k1, rfl, rfl⟩ := p1.form; have r1 := HYR.out.at_ p1.rd.1; have r2 := HER.out.at_ p1.rd.2; have HS1 := hide (below_then HS0.out hb1))
            | (go_at_call 116; refine (HC2.out _ HS1.out _ _ _ _ r1 r2).mono ?_; rintro e w4 ⟨v3, d3, rfl, p3, hb2⟩; obtain ⟨A3, c3, K3, k3, rfl, rfl⟩ := p3.form; have HS2 := hide (below_then HS1.out hb2); obtain ⟨z0, z1, z2, z3, z4, z5⟩ := HKR.out _ HS2.out))
      have hz1 := hb1.size
      have kr3 := HRR.out.below HS2.out HRR.out.lt
      have HO := hide (ret_rat kr3 p3 (below_then hb2' HS2.out) (x := (lowR (zv s xs * val es + zv (!t && !ys.isEmpty) ys * val ds) (natV ds * natV es)).1.1) (show w.heap.size ≤ w.heap.size + 2 by omega) (show w.heap.size + 2 < w3.heap.size by (try simp only [drew_size] at hz1); omega))
      clear p1 r1 r2 p3 hb1 hb2 z0 z1 z2 z3 z4 z5 kr3 hz1
      go_wp2_with fail
      refine bodyPost_ret (results_cell_row rfl _ _ (w.heap.size + 2) _ #[.bool (lowR (zv s xs * val es + zv (!t && !ys.isEmpty) ys * val ds) (natV ds * natV es)).1.1, .slice A3 (lowR (zv s xs * val es + zv (!t && !ys.isEmpty) ys * val ds) (natV ds * natV es)).1.2.length c3, .slice K3 (lowR (zv s xs * val es + zv (!t && !ys.isEmpty) ys * val ds) (natV ds * natV es)).2.length k3] (0, 0) _ rfl HO.out.1 Tryz.underlying27 rfl Tryz.sizeRat) rfl ?_
      exact ⟨_, _, rfl, HO.out.2.1, HO.out.2.2⟩
    · have hq : ratB t ys es = false := by simpa using hq
      have hz := HNO.out (.inr hq)
      subst hz
      rw [hq]
      clear HNO HOK
      have HO := hide (ret_rat0 (F := 3) kr2 hb2' (show w.heap.size ≤ w.heap.size + 2 by omega))
      obtain ⟨z0, z1, z2, z3, z4, z5⟩ := kr2.facts3
      clear kr2 hb2'
      go_wp2_with fail
      refine bodyPost_ret (results_cell_row rfl _ _ (w.heap.size + 2) _ #[.bool false, .slice none 0 0, .slice none 0 0] (0, 0) _ rfl HO.out.1 Tryz.underlying27 rfl Tryz.sizeRat) rfl ?_
      exact ⟨_, _, rfl, HO.out.2.1, HO.out.2.2⟩
  · have hr : ratB s xs ds = false := by simpa using hr
    have hz := HNO.out (.inl hr)
    subst hz
    rw [hr]
    clear HNO HOK
    have HO := hide (ret_rat0 (F := 3) kr1 hb1' (show w.heap.size ≤ w.heap.size + 2 by omega))
    obtain ⟨z0, z1, z2, z3, z4, z5⟩ := kr1.facts3
    clear kr1 hb1'
    go_wp2_with fail
    refine bodyPost_ret (results_cell_row rfl _ _ (w.heap.size + 2) _ #[.bool false, .slice none 0 0, .slice none 0 0] (0, 0) _ rfl HO.out.1 Tryz.underlying27 rfl Tryz.sizeRat) rfl ?_
    exact ⟨_, _, rfl, HO.out.2.1, HO.out.2.2⟩
set_option maxRecDepth 100000 in
set_option maxHeartbeats 3200000 in
theorem spec_RatDiv (w : World) (B : Nat) (hB : B ≤ w.heap.size) (s : Bool) (A : Option Addr) (n c : Nat) (xs : List Int) (Rx : RdI w B A n xs) (D : Option Addr) (m k : Nat) (ds : List Int) (Rd' : RdI w B D m ds) (t : Bool) (A' : Option Addr) (n' c' : Nat) (ys : List Int) (Ry : RdI w B A' n' ys) (D' : Option Addr) (m' k' : Nat) (es : List Int) (Re' : RdI w B D' m' es) :
    Calls Tryz.prog 66 #[.agg #[.bool s, .slice A n c, .slice D m k], .agg #[.bool t, .slice A' n' c', .slice D' m' k']] w fun e w' => RatRes 3 w w' e (divR s xs ds t ys es) := by
  have HNO := hide (divR_noR (s := s) (t := t) (xs := xs) (ds := ds) (ys := ys) (es := es))
  have HOK := hide (divR_okR (s := s) (t := t) (xs := xs) (ds := ds) (ys := ys) (es := es))
  generalize divR s xs ds t ys es = Z at HNO HOK ⊢
  obtain ⟨W0, hW0⟩ : ∃ W0, W0 = (((w.alloc (.cells #[.bool s, .slice A n c, .slice D m k] 27)).alloc (.cells #[.bool t, .slice A' n' c', .slice D' m' k'] 27)).alloc (.cells #[.bool false, .slice none 0 0, .slice none 0 0] 27)) := ⟨_, rfl⟩
  have hb0 : Below w.heap.size w W0 := by rw [hW0]; exact below_alloc (below_alloc (below_new _ _) _) _
  have kx : Box W0 (w.heap.size) 27 #[.bool s, .slice A n c, .slice D m k] := by rw [hW0]; exact ((Box.last _ _ _ rfl).alloc _).alloc _
  have ky : Box W0 (w.heap.size + 1) 27 #[.bool t, .slice A' n' c', .slice D' m' k'] := by rw [hW0]; exact (Box.last _ _ _ (alloc_size _ _).symm).alloc _
  have kr : Box W0 (w.heap.size + 2) 27 #[.bool false, .slice none 0 0, .slice none 0 0] := by rw [hW0]; exact Box.last _ _ _ (by rw [alloc_size, alloc_size])
  have hs0 : W0.heap.size = w.heap.size + 3 := by rw [hW0, alloc_size, alloc_size, alloc_size]
  go_enter Tryz.func66, Tryz.ntmps66
  go_upto_region 1 with fail
  rw [← hW0]
  clear hW0
  obtain ⟨a0, a1, a2⟩ := kx.cells3
  obtain ⟨b0, b1, b2⟩ := ky.cells3
  go_wp2_with fail
  refine (spec_RatOk W0 B (by omega) s A n c xs (Rx.below (hb0.mono hB)) D m k ds (Rd'.below (hb0.mono hB))).mono ?_
  rintro e w1 ⟨rfl, hb1⟩
  have kx1 := kx.below hb1 kx.lt
  have ky1 := ky.below hb1 ky.lt
  have kr1 := kr.below hb1 kr.lt
  have hs1 := hb1.size
  have hb1' := below_then hb0 hb1
  clear a0 a1 a2 b0 b1 b2 kx ky hb0 hb1 kr
  by_cases hr : ratB s xs ds = true
  · rw [hr]
    obtain ⟨a0, a1, a2⟩ := kx1.cells3
    obtain ⟨b0, b1, b2⟩ := ky1.cells3
    go_wp2_with fail
    refine (spec_RatOk w1 B (by omega) t A' n' c' ys (Ry.below (hb1'.mono hB)) D' m' k' es (Re'.below (hb1'.mono hB))).mono ?_
    rintro e w2 ⟨rfl, hb2⟩
    have kx2 := kx1.below hb2 kx1.lt
    have ky2 := ky1.below hb2 ky1.lt
    have kr2 := kr1.below hb2 kr1.lt
    have hs2 := hb2.size
    have hb2' := below_then hb1' hb2
    clear a0 a1 a2 b0 b1 b2 kx1 ky1 hb1' hb2 kr1
    by_cases hq : ratB t ys es = true
    · rw [hq]
      have hz := HOK.out hr hq
      obtain ⟨a0, a1, a2⟩ := kx2.cells3
      obtain ⟨b0, b1, b2⟩ := ky2.cells3
      clear HNO HOK
      rw [← div_ref hr hq] at hz
      subst hz
      have HX := hide kx2
      have HY := hide ky2
      have HRR := hide kr2
      have RX := Rx.below (hb2'.mono hB)
      have RD := Rd'.below (hb2'.mono hB)
      have RY := Ry.below (hb2'.mono hB)
      have RE := Re'.below (hb2'.mono hB)
      have hbx := bigB_nat (ratB_big hr)
      have hbd := ratB_den hr
      have hby := bigB_nat (ratB_big hq)
      have hbe := ratB_den hq
      have HC1 := hide (fun (W : World) (h : Below w2.heap.size w2 W) => spec_MulO W B (by have := h.size; omega) A n c xs (RX.below (h.mono (by omega))) hbx D' m' k' es (RE.below (h.mono (by omega))) hbe)
      have HC2 := hide (fun (W : World) (h : Below w2.heap.size w2 W) => spec_MulO W B (by have := h.size; omega) D m k ds (RD.below (h.mono (by omega))) hbd A' n' c' ys (RY.below (h.mono (by omega))) hby)
      have g1 := (prodL_ok hbx hbe (ratB_short hr).1 (ratB_short hq).2).1
      have g2 := (prodL_ok hbd hby (ratB_short hr).2 (ratB_short hq).1).1
      have HL1 := hide (prodL_len hbx hbe)
      have HL2 := hide (prodL_len hbd hby)
      have HC3 := hide (fun (W : World) (A1 A2 : Option Addr) (c1 c2 : Nat) (R1 : RdI W W.heap.size A1 (prodL xs es).length (prodL xs es)) (p1 : (prodL xs es).length ≤ c1 ∧ c1 ≤ maxLen) (R2 : RdI W W.heap.size A2 (prodL ds ys).length (prodL ds ys)) (p2 : (prodL ds ys).length ≤ c2 ∧ c2 ≤ maxLen) => spec_Low W W.heap.size (Nat.le_refl _) (s != t) A1 _ c1 (prodL xs es) R1 p1 g1 A2 _ c2 (prodL ds ys) R2 p2 g2)
      clear RX RD RY RE kx2 ky2 kr2 hbx hbd hby hbe g1 g2 hr hq
      have HS0 : Hid (Below w2.heap.size w2 w2.drew) := (Below.refl _ _).drew
      have HKS := hide (fun (W : World) (hq : Below w2.heap.size w2 W) => (⟨(HX.out.below hq HX.out.lt).cell 0, (HX.out.below hq HX.out.lt).cell 1, (HX.out.below hq HX.out.lt).cell 2, (HY.out.below hq HY.out.lt).cell 0, (HY.out.below hq HY.out.lt).cell 1, (HY.out.below hq HY.out.lt).cell 2⟩ : W.cell? ⟨w.heap.size, 0, none⟩ = some (.bool s) ∧ W.cell? ⟨w.heap.size, 1, none⟩ = some (.slice A n c) ∧ W.cell? ⟨w.heap.size, 2, none⟩ = some (.slice D m k) ∧ W.cell? ⟨w.heap.size + 1, 0, none⟩ = some (.bool t) ∧ W.cell? ⟨w.heap.size + 1, 1, none⟩ = some (.slice A' n' c') ∧ W.cell? ⟨w.heap.size + 1, 2, none⟩ = some (.slice D' m' k')))
      have HKR := hide (fun (W : World) (hq : Below w2.heap.size w2 W) => (⟨(HRR.out.below hq HRR.out.lt).cell 0, (HRR.out.below hq HRR.out.lt).cell 1, (HRR.out.below hq HRR.out.lt).cell 2, (HRR.out.below hq HRR.out.lt).frozen 0, (HRR.out.below hq HRR.out.lt).frozen 1, (HRR.out.below hq HRR.out.lt).frozen 2⟩ : W.cell? ⟨w.heap.size + 2, 0, none⟩ = some (.bool false) ∧ W.cell? ⟨w.heap.size + 2, 1, none⟩ = some (.slice none 0 0) ∧ W.cell? ⟨w.heap.size + 2, 2, none⟩ = some (.slice none 0 0) ∧ W.frozen? ⟨w.heap.size + 2, 0, none⟩ = false ∧ W.frozen? ⟨w.heap.size + 2, 1, none⟩ = false ∧ W.frozen? ⟨w.heap.size + 2, 2, none⟩ = false))
      have HKT := hide (fun (W : World) (hq : Below w2.heap.size w2 W) (x y z : Value) => (⟨(((((HX.out.below hq HX.out.lt).setv (show w.heap.size ≠ w.heap.size + 2 by omega) 0 x).setv (show w.heap.size ≠ w.heap.size + 2 by omega) 1 y).setv (show w.heap.size ≠ w.heap.size + 2 by omega) 2 z)).cell 0, (((((HX.out.below hq HX.out.lt).setv (show w.heap.size ≠ w.heap.size + 2 by omega) 0 x).setv (show w.heap.size ≠ w.heap.size + 2 by omega) 1 y).setv (show w.heap.size ≠ w.heap.size + 2 by omega) 2 z)).cell 1, (((((HX.out.below hq HX.out.lt).setv (show w.heap.size ≠ w.heap.size + 2 by omega) 0 x).setv (show w.heap.size ≠ w.heap.size + 2 by omega) 1 y).setv (show w.heap.size ≠ w.heap.size + 2 by omega) 2 z)).cell 2, (((((HY.out.below hq HY.out.lt).setv (show w.heap.size + 1 ≠ w.heap.size + 2 by omega) 0 x).setv (show w.heap.size + 1 ≠ w.heap.size + 2 by omega) 1 y).setv (show w.heap.size + 1 ≠ w.heap.size + 2 by omega) 2 z)).cell 0, (((((HY.out.below hq HY.out.lt).setv (show w.heap.size + 1 ≠ w.heap.size + 2 by omega) 0 x).setv (show w.heap.size + 1 ≠ w.heap.size + 2 by omega) 1 y).setv (show w.heap.size + 1 ≠ w.heap.size + 2 by omega) 2 z)).cell 1, (((((HY.out.below hq HY.out.lt).setv (show w.heap.size + 1 ≠ w.heap.size + 2 by omega) 0 x).setv (show w.heap.size + 1 ≠ w.heap.size + 2 by omega) 1 y).setv (show w.heap.size + 1 ≠ w.heap.size + 2 by omega) 2 z)).cell 2⟩ : (((W.setCell ⟨w.heap.size + 2, 0, none⟩ x).setCell ⟨w.heap.size + 2, 1, none⟩ y).setCell ⟨w.heap.size + 2, 2, none⟩ z).cell? ⟨w.heap.size, 0, none⟩ = some (.bool s) ∧ (((W.setCell ⟨w.heap.size + 2, 0, none⟩ x).setCell ⟨w.heap.size + 2, 1, none⟩ y).setCell ⟨w.heap.size + 2, 2, none⟩ z).cell? ⟨w.heap.size, 1, none⟩ = some (.slice A n c) ∧ (((W.setCell ⟨w.heap.size + 2, 0, none⟩ x).setCell ⟨w.heap.size + 2, 1, none⟩ y).setCell ⟨w.heap.size + 2, 2, none⟩ z).cell? ⟨w.heap.size, 2, none⟩ = some (.slice D m k) ∧ (((W.setCell ⟨w.heap.size + 2, 0, none⟩ x).setCell ⟨w.heap.size + 2, 1, none⟩ y).setCell ⟨w.heap.size + 2, 2, none⟩ z).cell? ⟨w.heap.size + 1, 0, none⟩ = some (.bool t) ∧ (((W.setCell ⟨w.heap.size + 2, 0, none⟩ x).setCell ⟨w.heap.size + 2, 1, none⟩ y).setCell ⟨w.heap.size + 2, 2, none⟩ z).cell? ⟨w.heap.size + 1, 1, none⟩ = some (.slice A' n' c') ∧ (((W.setCell ⟨w.heap.size + 2, 0, none⟩ x).setCell ⟨w.heap.size + 2, 1, none⟩ y).setCell ⟨w.heap.size + 2, 2, none⟩ z).cell? ⟨w.heap.size + 1, 2, none⟩ = some (.slice D' m' k')))
      go_wp2_with fail
      go_region_held3 (fun w' => w'.cell? ⟨w.heap.size, 0, none⟩ = some (.bool s) ∧ w'.cell? ⟨w.heap.size, 1, none⟩ = some (.slice A n c) ∧ w'.cell? ⟨w.heap.size, 2, none⟩ = some (.slice D m k) ∧ w'.cell? ⟨w.heap.size + 1, 0, none⟩ = some (.bool t) ∧ w'.cell? ⟨w.heap.size + 1, 1, none⟩ = some (.slice A' n' c') ∧ w'.cell? ⟨w.heap.size + 1, 2, none⟩ = some (.slice D' m' k'))
          (first | (with_reducible exact HKT.out _ HS3.out _ _ _) | (with_reducible exact HKS.out _ HS3.out) | (with_reducible exact HKS.out _ HS2.out) | (with_reducible exact HKS.out _ HS1.out) | (with_reducible exact HKS.out _ HS0.out))
          (first
            | (go_at_call_has 119 A; refine (HC1.out _ HS0.out).mono ?_; rintro e w3 ⟨v1, rfl, o1, hb1⟩; obtain ⟨A1, c1, rfl⟩ := o1.form; have P1 := hide o1.cap; have HS1 := hide (below_then HS0.out hb1))
            | (go_at_call_has 119 D; refine (HC2.out _ HS1.out).mono ?_; rintro e w4 ⟨v2, rfl, o2, hb2⟩; obtain ⟨A2, c2, rfl⟩ := o2.form; have P2 := hide o2.cap; have r1 := RdI.of_own (o1.below hb2 (Nat.le_refl _)) HL1.out (prodL_limbs _ _); have r2 := RdI.of_own o2 HL2.out (prodL_limbs _ _); have HS2 := hide (below_then HS1.out hb2))
            | (go_at_call 118; refine (HC3.out _ _ _ _ _ r1 P1.out r2 P2.out).mono ?_; rintro e w5 ⟨v3, d3, rfl, p3, hb3⟩; obtain ⟨A3, c3, K3, k3, rfl, rfl⟩ := p3.form; have HS3 := hide (below_then HS2.out hb3); obtain ⟨z0, z1, z2, z3, z4, z5⟩ := HKR.out _ HS3.out))
      have hz1 := hb1.size
      have hz2 := hb2.size
      have kr3 := HRR.out.below HS3.out HRR.out.lt
      have HO := hide (ret_rat kr3 p3 (below_then hb2' HS3.out) (x := (lowR (zv (s != t) (prodL xs es)) (natV (prodL ds ys))).1.1) (show w.heap.size ≤ w.heap.size + 2 by omega) (show w.heap.size + 2 < w4.heap.size by (try simp only [drew_size] at hz1 hz2); omega))
      clear o1 o2 r1 r2 p3 hb1 hb2 hb3 z0 z1 z2 z3 z4 z5 kr3 hz1 hz2
      go_wp2_with fail
      refine bodyPost_ret (results_cell_row rfl _ _ (w.heap.size + 2) _ #[.bool (lowR (zv (s != t) (prodL xs es)) (natV (prodL ds ys))).1.1, .slice A3 (lowR (zv (s != t) (prodL xs es)) (natV (prodL ds ys))).1.2.length c3, .slice K3 (lowR (zv (s != t) (prodL xs es)) (natV (prodL ds ys))).2.length k3] (0, 0) _ rfl HO.out.1 Tryz.underlying27 rfl Tryz.sizeRat) rfl ?_
      exact ⟨_, _, rfl, HO.out.2.1, HO.out.2.2⟩
    · have hq : ratB t ys es = false := by simpa using hq
      have hz := HNO.out (.inr hq)
      subst hz
      rw [hq]
      clear HNO HOK
      have HO := hide (ret_rat0 (F := 3) kr2 hb2' (show w.heap.size ≤ w.heap.size + 2 by omega))
      obtain ⟨z0, z1, z2, z3, z4, z5⟩ := kr2.facts3
      clear kr2 hb2'
      go_wp2_with fail
      refine bodyPost_ret (results_cell_row rfl _ _ (w.heap.size + 2) _ #[.bool false, .slice none 0 0, .slice none 0 0] (0, 0) _ rfl HO.out.1 Tryz.underlying27 rfl Tryz.sizeRat) rfl ?_
      exact ⟨_, _, rfl, HO.out.2.1, HO.out.2.2⟩
  · have hr : ratB s xs ds = false := by simpa using hr
    have hz := HNO.out (.inl hr)
    subst hz
    rw [hr]
    clear HNO HOK
    have HO := hide (ret_rat0 (F := 3) kr1 hb1' (show w.heap.size ≤ w.heap.size + 2 by omega))
    obtain ⟨z0, z1, z2, z3, z4, z5⟩ := kr1.facts3
    clear kr1 hb1'
    go_wp2_with fail
    refine bodyPost_ret (results_cell_row rfl _ _ (w.heap.size + 2) _ #[.bool false, .slice none 0 0, .slice none 0 0] (0, 0) _ rfl HO.out.1 Tryz.underlying27 rfl Tryz.sizeRat) rfl ?_
    exact ⟨_, _, rfl, HO.out.2.1, HO.out.2.2⟩
set_option maxRecDepth 100000 in
set_option maxHeartbeats 3200000 in
theorem spec_RatMin (w : World) (B : Nat) (hB : B ≤ w.heap.size) (s : Bool) (A : Option Addr) (n c : Nat) (xs : List Int) (Rx : RdI w B A n xs) (D : Option Addr) (m k : Nat) (ds : List Int) (Rd' : RdI w B D m ds) (t : Bool) (A' : Option Addr) (n' c' : Nat) (ys : List Int) (Ry : RdI w B A' n' ys) (D' : Option Addr) (m' k' : Nat) (es : List Int) (Re' : RdI w B D' m' es) :
    Calls Tryz.prog 68 #[.agg #[.bool s, .slice A n c, .slice D m k], .agg #[.bool t, .slice A' n' c', .slice D' m' k']] w fun e w' => RatRef 3 w w' e (minR s xs ds t ys es) := by
  have HNO := hide (minR_noR (s := s) (t := t) (xs := xs) (ds := ds) (ys := ys) (es := es))
  have HOK := hide (minR_okR (s := s) (t := t) (xs := xs) (ds := ds) (ys := ys) (es := es))
  generalize minR s xs ds t ys es = Z at HNO HOK ⊢
  obtain ⟨W0, hW0⟩ : ∃ W0, W0 = (((w.alloc (.cells #[.bool s, .slice A n c, .slice D m k] 27)).alloc (.cells #[.bool t, .slice A' n' c', .slice D' m' k'] 27)).alloc (.cells #[.bool false, .slice none 0 0, .slice none 0 0] 27)) := ⟨_, rfl⟩
  have hb0 : Below w.heap.size w W0 := by rw [hW0]; exact below_alloc (below_alloc (below_new _ _) _) _
  have kx : Box W0 (w.heap.size) 27 #[.bool s, .slice A n c, .slice D m k] := by rw [hW0]; exact ((Box.last _ _ _ rfl).alloc _).alloc _
  have ky : Box W0 (w.heap.size + 1) 27 #[.bool t, .slice A' n' c', .slice D' m' k'] := by rw [hW0]; exact (Box.last _ _ _ (alloc_size _ _).symm).alloc _
  have kr : Box W0 (w.heap.size + 2) 27 #[.bool false, .slice none 0 0, .slice none 0 0] := by rw [hW0]; exact Box.last _ _ _ (by rw [alloc_size, alloc_size])
  have hs0 : W0.heap.size = w.heap.size + 3 := by rw [hW0, alloc_size, alloc_size, alloc_size]
  go_enter Tryz.func68, Tryz.ntmps68
  go_upto_region 1 with fail
  rw [← hW0]
  clear hW0
  obtain ⟨a0, a1, a2⟩ := kx.cells3
  obtain ⟨b0, b1, b2⟩ := ky.cells3
  go_wp2_with fail
  refine (spec_RatOk W0 B (by omega) s A n c xs (Rx.below (hb0.mono hB)) D m k ds (Rd'.below (hb0.mono hB))).mono ?_
  rintro e w1 ⟨rfl, hb1⟩
  have kx1 := kx.below hb1 kx.lt
  have ky1 := ky.below hb1 ky.lt
  have kr1 := kr.below hb1 kr.lt
  have hs1 := hb1.size
  have hb1' := below_then hb0 hb1
  clear a0 a1 a2 b0 b1 b2 kx ky hb0 hb1 kr
  by_cases hr : ratB s xs ds = true
  · rw [hr]
    obtain ⟨a0, a1, a2⟩ := kx1.cells3
    obtain ⟨b0, b1, b2⟩ := ky1.cells3
    go_wp2_with fail
    refine (spec_RatOk w1 B (by omega) t A' n' c' ys (Ry.below (hb1'.mono hB)) D' m' k' es (Re'.below (hb1'.mono hB))).mono ?_
    rintro e w2 ⟨rfl, hb2⟩
    have kx2 := kx1.below hb2 kx1.lt
    have ky2 := ky1.below hb2 ky1.lt
    have kr2 := kr1.below hb2 kr1.lt
    have hs2 := hb2.size
    have hb2' := below_then hb1' hb2
    clear a0 a1 a2 b0 b1 b2 kx1 ky1 hb1' hb2 kr1
    by_cases hq : ratB t ys es = true
    · rw [hq]
      have hz := HOK.out hr hq
      obtain ⟨a0, a1, a2⟩ := kx2.cells3
      obtain ⟨b0, b1, b2⟩ := ky2.cells3
      clear HNO HOK
      have HCP := hide (spec_ratCmp w2 B (by omega) s A n c xs (Rx.below (hb2'.mono hB)) D m k ds (Rd'.below (hb2'.mono hB)) hr t A' n' c' ys (Ry.below (hb2'.mono hB)) D' m' k' es (Re'.below (hb2'.mono hB)) hq)
      by_cases hc : cmpW s xs ds t ys es ≤ 0
      · rw [if_pos hc] at hz
        subst hz
        clear hr hq
        generalize cmpW s xs ds t ys es = C at hc HCP
        go_wp2_with fail
        refine HCP.out.mono ?_
        rintro e w3 ⟨rfl, hb3⟩
        have kx3 := kx2.below hb3 kx2.lt
        have ky3 := ky2.below hb3 ky2.lt
        have kr3 := kr2.below hb3 kr2.lt
        have hs3 := hb3.size
        have hb3' := below_then hb2' hb3
        clear a0 a1 a2 b0 b1 b2 kx2 ky2 kr2 hb2' hb3 HCP
        obtain ⟨a0, a1, a2⟩ := kx3.cells3
        obtain ⟨b0, b1, b2⟩ := ky3.cells3
        have HCP := hide (spec_Copy w3 B (by omega) s A n c xs (Rx.below (hb3'.mono hB)) D m k ds (Rd'.below (hb3'.mono hB)))
        go_wp2_with fail
        refine HCP.out.mono ?_
        rintro e w4 ⟨v4, d4, rfl, p4, hb4⟩
        obtain ⟨A4, c4, K4, k4, rfl, rfl⟩ := p4.form
        have kr4 := kr3.below hb4 kr3.lt
        have hb4' := below_then hb3' hb4
        obtain ⟨z0, z1, z2, z3, z4, z5⟩ := kr4.facts3
        have HO := hide (ret_ref (x := s) kr4 p4 hb4' (show w.heap.size ≤ w.heap.size + 2 by omega) (by omega))
        clear kr4 p4 hb4' hb4 kr3 HCP
        go_wp2_with fail
        refine bodyPost_ret (results_cell_row rfl _ _ (w.heap.size + 2) _ #[.bool s, .slice A4 xs.length c4, .slice K4 ds.length k4] (0, 0) _ rfl HO.out.1 Tryz.underlying27 rfl Tryz.sizeRat) rfl ?_
        exact ⟨_, _, rfl, HO.out.2.1, HO.out.2.2⟩
      · rw [if_neg hc] at hz
        subst hz
        clear hr hq
        generalize cmpW s xs ds t ys es = C at hc HCP
        go_wp2_with fail
        refine HCP.out.mono ?_
        rintro e w3 ⟨rfl, hb3⟩
        have kx3 := kx2.below hb3 kx2.lt
        have ky3 := ky2.below hb3 ky2.lt
        have kr3 := kr2.below hb3 kr2.lt
        have hs3 := hb3.size
        have hb3' := below_then hb2' hb3
        clear a0 a1 a2 b0 b1 b2 kx2 ky2 kr2 hb2' hb3 HCP
        obtain ⟨a0, a1, a2⟩ := kx3.cells3
        obtain ⟨b0, b1, b2⟩ := ky3.cells3
        have HCP := hide (spec_Copy w3 B (by omega) t A' n' c' ys (Ry.below (hb3'.mono hB)) D' m' k' es (Re'.below (hb3'.mono hB)))
        go_wp2_with fail
        refine HCP.out.mono ?_
        rintro e w4 ⟨v4, d4, rfl, p4, hb4⟩
        obtain ⟨A4, c4, K4, k4, rfl, rfl⟩ := p4.form
        have kr4 := kr3.below hb4 kr3.lt
        have hb4' := below_then hb3' hb4
        obtain ⟨z0, z1, z2, z3, z4, z5⟩ := kr4.facts3
        have HO := hide (ret_ref (x := t) kr4 p4 hb4' (show w.heap.size ≤ w.heap.size + 2 by omega) (by omega))
        clear kr4 p4 hb4' hb4 kr3 HCP
        go_wp2_with fail
        refine bodyPost_ret (results_cell_row rfl _ _ (w.heap.size + 2) _ #[.bool t, .slice A4 ys.length c4, .slice K4 es.length k4] (0, 0) _ rfl HO.out.1 Tryz.underlying27 rfl Tryz.sizeRat) rfl ?_
        exact ⟨_, _, rfl, HO.out.2.1, HO.out.2.2⟩
    · have hq : ratB t ys es = false := by simpa using hq
      have hz := HNO.out (.inr hq)
      subst hz
      rw [hq]
      clear HNO HOK
      have HO := hide (ret_rat0 (F := 3) kr2 hb2' (show w.heap.size ≤ w.heap.size + 2 by omega))
      obtain ⟨z0, z1, z2, z3, z4, z5⟩ := kr2.facts3
      clear kr2 hb2'
      go_wp2_with fail
      refine bodyPost_ret (results_cell_row rfl _ _ (w.heap.size + 2) _ #[.bool false, .slice none 0 0, .slice none 0 0] (0, 0) _ rfl HO.out.1 Tryz.underlying27 rfl Tryz.sizeRat) rfl ?_
      obtain ⟨l1, h1, l2, h2, o1, o2, ha, hb, hc, hd, _⟩ := HO.out.2.1
      exact ⟨_, _, rfl, ⟨o1.wider ha hc, o2.wider hb hd⟩, HO.out.2.2⟩
  · have hr : ratB s xs ds = false := by simpa using hr
    have hz := HNO.out (.inl hr)
    subst hz
    rw [hr]
    clear HNO HOK
    have HO := hide (ret_rat0 (F := 3) kr1 hb1' (show w.heap.size ≤ w.heap.size + 2 by omega))
    obtain ⟨z0, z1, z2, z3, z4, z5⟩ := kr1.facts3
    clear kr1 hb1'
    go_wp2_with fail
    refine bodyPost_ret (results_cell_row rfl _ _ (w.heap.size + 2) _ #[.bool false, .slice none 0 0, .slice none 0 0] (0, 0) _ rfl HO.out.1 Tryz.underlying27 rfl Tryz.sizeRat) rfl ?_
    obtain ⟨l1, h1, l2, h2, o1, o2, ha, hb, hc, hd, _⟩ := HO.out.2.1
    exact ⟨_, _, rfl, ⟨o1.wider ha hc, o2.wider hb hd⟩, HO.out.2.2⟩
set_option maxRecDepth 100000 in
set_option maxHeartbeats 3200000 in
theorem spec_RatMax (w : World) (B : Nat) (hB : B ≤ w.heap.size) (s : Bool) (A : Option Addr) (n c : Nat) (xs : List Int) (Rx : RdI w B A n xs) (D : Option Addr) (m k : Nat) (ds : List Int) (Rd' : RdI w B D m ds) (t : Bool) (A' : Option Addr) (n' c' : Nat) (ys : List Int) (Ry : RdI w B A' n' ys) (D' : Option Addr) (m' k' : Nat) (es : List Int) (Re' : RdI w B D' m' es) :
    Calls Tryz.prog 69 #[.agg #[.bool s, .slice A n c, .slice D m k], .agg #[.bool t, .slice A' n' c', .slice D' m' k']] w fun e w' => RatRef 3 w w' e (maxR s xs ds t ys es) := by
  have HNO := hide (maxR_noR (s := s) (t := t) (xs := xs) (ds := ds) (ys := ys) (es := es))
  have HOK := hide (maxR_okR (s := s) (t := t) (xs := xs) (ds := ds) (ys := ys) (es := es))
  generalize maxR s xs ds t ys es = Z at HNO HOK ⊢
  obtain ⟨W0, hW0⟩ : ∃ W0, W0 = (((w.alloc (.cells #[.bool s, .slice A n c, .slice D m k] 27)).alloc (.cells #[.bool t, .slice A' n' c', .slice D' m' k'] 27)).alloc (.cells #[.bool false, .slice none 0 0, .slice none 0 0] 27)) := ⟨_, rfl⟩
  have hb0 : Below w.heap.size w W0 := by rw [hW0]; exact below_alloc (below_alloc (below_new _ _) _) _
  have kx : Box W0 (w.heap.size) 27 #[.bool s, .slice A n c, .slice D m k] := by rw [hW0]; exact ((Box.last _ _ _ rfl).alloc _).alloc _
  have ky : Box W0 (w.heap.size + 1) 27 #[.bool t, .slice A' n' c', .slice D' m' k'] := by rw [hW0]; exact (Box.last _ _ _ (alloc_size _ _).symm).alloc _
  have kr : Box W0 (w.heap.size + 2) 27 #[.bool false, .slice none 0 0, .slice none 0 0] := by rw [hW0]; exact Box.last _ _ _ (by rw [alloc_size, alloc_size])
  have hs0 : W0.heap.size = w.heap.size + 3 := by rw [hW0, alloc_size, alloc_size, alloc_size]
  go_enter Tryz.func69, Tryz.ntmps69
  go_upto_region 1 with fail
  rw [← hW0]
  clear hW0
  obtain ⟨a0, a1, a2⟩ := kx.cells3
  obtain ⟨b0, b1, b2⟩ := ky.cells3
  go_wp2_with fail
  refine (spec_RatOk W0 B (by omega) s A n c xs (Rx.below (hb0.mono hB)) D m k ds (Rd'.below (hb0.mono hB))).mono ?_
  rintro e w1 ⟨rfl, hb1⟩
  have kx1 := kx.below hb1 kx.lt
  have ky1 := ky.below hb1 ky.lt
  have kr1 := kr.below hb1 kr.lt
  have hs1 := hb1.size
  have hb1' := below_then hb0 hb1
  clear a0 a1 a2 b0 b1 b2 kx ky hb0 hb1 kr
  by_cases hr : ratB s xs ds = true
  · rw [hr]
    obtain ⟨a0, a1, a2⟩ := kx1.cells3
    obtain ⟨b0, b1, b2⟩ := ky1.cells3
    go_wp2_with fail
    refine (spec_RatOk w1 B (by omega) t A' n' c' ys (Ry.below (hb1'.mono hB)) D' m' k' es (Re'.below (hb1'.mono hB))).mono ?_
    rintro e w2 ⟨rfl, hb2⟩
    have kx2 := kx1.below hb2 kx1.lt
    have ky2 := ky1.below hb2 ky1.lt
    have kr2 := kr1.below hb2 kr1.lt
    have hs2 := hb2.size
    have hb2' := below_then hb1' hb2
    clear a0 a1 a2 b0 b1 b2 kx1 ky1 hb1' hb2 kr1
    by_cases hq : ratB t ys es = true
    · rw [hq]
      have hz := HOK.out hr hq
      obtain ⟨a0, a1, a2⟩ := kx2.cells3
      obtain ⟨b0, b1, b2⟩ := ky2.cells3
      clear HNO HOK
      have HCP := hide (spec_ratCmp w2 B (by omega) s A n c xs (Rx.below (hb2'.mono hB)) D m k ds (Rd'.below (hb2'.mono hB)) hr t A' n' c' ys (Ry.below (hb2'.mono hB)) D' m' k' es (Re'.below (hb2'.mono hB)) hq)
      by_cases hc : 0 ≤ cmpW s xs ds t ys es
      · rw [if_pos hc] at hz
        subst hz
        clear hr hq
        generalize cmpW s xs ds t ys es = C at hc HCP
        go_wp2_with fail
        refine HCP.out.mono ?_
        rintro e w3 ⟨rfl, hb3⟩
        have kx3 := kx2.below hb3 kx2.lt
        have ky3 := ky2.below hb3 ky2.lt
        have kr3 := kr2.below hb3 kr2.lt
        have hs3 := hb3.size
        have hb3' := below_then hb2' hb3
        clear a0 a1 a2 b0 b1 b2 kx2 ky2 kr2 hb2' hb3 HCP
        obtain ⟨a0, a1, a2⟩ := kx3.cells3
        obtain ⟨b0, b1, b2⟩ := ky3.cells3
        have HCP := hide (spec_Copy w3 B (by omega) s A n c xs (Rx.below (hb3'.mono hB)) D m k ds (Rd'.below (hb3'.mono hB)))
        go_wp2_with fail
        refine HCP.out.mono ?_
        rintro e w4 ⟨v4, d4, rfl, p4, hb4⟩
        obtain ⟨A4, c4, K4, k4, rfl, rfl⟩ := p4.form
        have kr4 := kr3.below hb4 kr3.lt
        have hb4' := below_then hb3' hb4
        obtain ⟨z0, z1, z2, z3, z4, z5⟩ := kr4.facts3
        have HO := hide (ret_ref (x := s) kr4 p4 hb4' (show w.heap.size ≤ w.heap.size + 2 by omega) (by omega))
        clear kr4 p4 hb4' hb4 kr3 HCP
        go_wp2_with fail
        refine bodyPost_ret (results_cell_row rfl _ _ (w.heap.size + 2) _ #[.bool s, .slice A4 xs.length c4, .slice K4 ds.length k4] (0, 0) _ rfl HO.out.1 Tryz.underlying27 rfl Tryz.sizeRat) rfl ?_
        exact ⟨_, _, rfl, HO.out.2.1, HO.out.2.2⟩
      · rw [if_neg hc] at hz
        subst hz
        clear hr hq
        generalize cmpW s xs ds t ys es = C at hc HCP
        go_wp2_with fail
        refine HCP.out.mono ?_
        rintro e w3 ⟨rfl, hb3⟩
        have kx3 := kx2.below hb3 kx2.lt
        have ky3 := ky2.below hb3 ky2.lt
        have kr3 := kr2.below hb3 kr2.lt
        have hs3 := hb3.size
        have hb3' := below_then hb2' hb3
        clear a0 a1 a2 b0 b1 b2 kx2 ky2 kr2 hb2' hb3 HCP
        obtain ⟨a0, a1, a2⟩ := kx3.cells3
        obtain ⟨b0, b1, b2⟩ := ky3.cells3
        have HCP := hide (spec_Copy w3 B (by omega) t A' n' c' ys (Ry.below (hb3'.mono hB)) D' m' k' es (Re'.below (hb3'.mono hB)))
        go_wp2_with fail
        refine HCP.out.mono ?_
        rintro e w4 ⟨v4, d4, rfl, p4, hb4⟩
        obtain ⟨A4, c4, K4, k4, rfl, rfl⟩ := p4.form
        have kr4 := kr3.below hb4 kr3.lt
        have hb4' := below_then hb3' hb4
        obtain ⟨z0, z1, z2, z3, z4, z5⟩ := kr4.facts3
        have HO := hide (ret_ref (x := t) kr4 p4 hb4' (show w.heap.size ≤ w.heap.size + 2 by omega) (by omega))
        clear kr4 p4 hb4' hb4 kr3 HCP
        go_wp2_with fail
        refine bodyPost_ret (results_cell_row rfl _ _ (w.heap.size + 2) _ #[.bool t, .slice A4 ys.length c4, .slice K4 es.length k4] (0, 0) _ rfl HO.out.1 Tryz.underlying27 rfl Tryz.sizeRat) rfl ?_
        exact ⟨_, _, rfl, HO.out.2.1, HO.out.2.2⟩
    · have hq : ratB t ys es = false := by simpa using hq
      have hz := HNO.out (.inr hq)
      subst hz
      rw [hq]
      clear HNO HOK
      have HO := hide (ret_rat0 (F := 3) kr2 hb2' (show w.heap.size ≤ w.heap.size + 2 by omega))
      obtain ⟨z0, z1, z2, z3, z4, z5⟩ := kr2.facts3
      clear kr2 hb2'
      go_wp2_with fail
      refine bodyPost_ret (results_cell_row rfl _ _ (w.heap.size + 2) _ #[.bool false, .slice none 0 0, .slice none 0 0] (0, 0) _ rfl HO.out.1 Tryz.underlying27 rfl Tryz.sizeRat) rfl ?_
      obtain ⟨l1, h1, l2, h2, o1, o2, ha, hb, hc, hd, _⟩ := HO.out.2.1
      exact ⟨_, _, rfl, ⟨o1.wider ha hc, o2.wider hb hd⟩, HO.out.2.2⟩
  · have hr : ratB s xs ds = false := by simpa using hr
    have hz := HNO.out (.inl hr)
    subst hz
    rw [hr]
    clear HNO HOK
    have HO := hide (ret_rat0 (F := 3) kr1 hb1' (show w.heap.size ≤ w.heap.size + 2 by omega))
    obtain ⟨z0, z1, z2, z3, z4, z5⟩ := kr1.facts3
    clear kr1 hb1'
    go_wp2_with fail
    refine bodyPost_ret (results_cell_row rfl _ _ (w.heap.size + 2) _ #[.bool false, .slice none 0 0, .slice none 0 0] (0, 0) _ rfl HO.out.1 Tryz.underlying27 rfl Tryz.sizeRat) rfl ?_
    obtain ⟨l1, h1, l2, h2, o1, o2, ha, hb, hc, hd, _⟩ := HO.out.2.1
    exact ⟨_, _, rfl, ⟨o1.wider ha hc, o2.wider hb hd⟩, HO.out.2.2⟩
set_option maxRecDepth 100000 in
set_option maxHeartbeats 1600000 in
theorem spec_RatSign (w : World) (B : Nat) (hB : B ≤ w.heap.size) (s : Bool) (A : Option Addr) (n c : Nat) (xs : List Int) (Rx : RdI w B A n xs) (D : Option Addr) (m k : Nat) (ds : List Int) (Rd' : RdI w B D m ds) :
    Calls Tryz.prog 63 #[.agg #[.bool s, .slice A n c, .slice D m k]] w fun e w' => e = .returned (.int .i64 (signR s xs ds)) ∧ Below w.heap.size w w' := by
  have HNO := hide (signR_noR (s := s) (xs := xs) (ds := ds))
  have HOK := hide (signR_okR (s := s) (xs := xs) (ds := ds))
  generalize signR s xs ds = Z at HNO HOK ⊢
  have hxl := Rx.1
  obtain ⟨W0, hW0⟩ : ∃ W0, W0 = (w.alloc (.cells #[.bool s, .slice A n c, .slice D m k] 27)) := ⟨_, rfl⟩
  have hb0 : Below w.heap.size w W0 := by rw [hW0]; exact below_new _ _
  have kx : Box W0 (w.heap.size) 27 #[.bool s, .slice A n c, .slice D m k] := by rw [hW0]; exact Box.last _ _ _ rfl
  have hs0 : W0.heap.size = w.heap.size + 1 := by rw [hW0, alloc_size]
  go_enter Tryz.func63, Tryz.ntmps63
  go_upto_region 1 with fail
  rw [← hW0]
  clear hW0
  obtain ⟨a0, a1, a2⟩ := kx.cells3
  go_wp2_with fail
  refine (spec_RatOk W0 B (by omega) s A n c xs (Rx.below (hb0.mono hB)) D m k ds (Rd'.below (hb0.mono hB))).mono ?_
  rintro e w1 ⟨rfl, hb1⟩
  have kx1 := kx.below hb1 kx.lt
  have hs1 := hb1.size
  have hb1' := below_then hb0 hb1
  clear a0 a1 a2 kx hb0 hb1
  by_cases hr : ratB s xs ds = true
  · rw [hr]
    obtain ⟨a0, a1, a2⟩ := kx1.cells3
    by_cases h0 : 0 < n
    · have h0' : ((n : Int) == 0) = false := by rw [beq_eq_false_iff_ne]; omega
      have hz := HOK.out hr (by omega)
      subst hz
      clear HNO HOK
      cases s
      · go_wp2_with fail
        go_ret
        exact ⟨rfl, hb1'⟩
      · go_wp2_with fail
        go_ret
        exact ⟨rfl, hb1'⟩
    · have h0' : ((n : Int) == 0) = true := by rw [beq_iff_eq]; omega
      have hz := HNO.out (.inr (by omega))
      subst hz
      clear HNO HOK
      go_wp2_with fail
      go_ret
      exact ⟨rfl, hb1'⟩
  · have hr : ratB s xs ds = false := by simpa using hr
    have hz := HNO.out (.inl hr)
    subst hz
    rw [hr]
    clear HNO HOK
    go_wp2_with fail
    go_ret
    exact ⟨rfl, hb1'⟩
end Go.Proofs.YtcpncoonbdbkmaaGreat
