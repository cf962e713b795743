/-
  The reference's fractions: contracts (7): RatAdd, RatMul, RatSub, RatDiv, RatCmp, RatSign, RatNeg, RatMin, RatMax.
-/
import Derived.Test.YtocllmaikngoaaaRatR5
import Derived.Test.YtocllmaikngoaaaBigR2
import Derived.Test.YtocllmaikngoaaaRA
import Derived.Deep.RegionHeld3
import Derived.Deep.CutRange
namespace Go.Proofs.Ytocllmaikngoaaa
open Go.RowKit
set_option linter.unusedVariables false
theorem cmpR_noR {s t : Bool} {xs ds ys es : List Int} (h : ratB s xs ds = false ∨ ratB t ys es = false) : cmpR s xs ds t ys es = 0 := by rw [cmpR, if_neg]; rcases h with h | h <;> simp [h]
theorem cmpR_okR {s t : Bool} {xs ds ys es : List Int} (h : ratB s xs ds = true) (k : ratB t ys es = true) : cmpR s xs ds t ys es = cmpW s xs ds t ys es := by rw [cmpR, h, k]; rfl
set_option maxRecDepth 100000 in
set_option maxHeartbeats 3200000 in
theorem spec_RatCmp (w : World) (B : Nat) (hB : B ≤ w.heap.size) (s : Bool) (A : Option Addr) (n c : Nat) (xs : List Int) (Rx : RdI w B A n xs) (D : Option Addr) (m k : Nat) (ds : List Int) (Rd' : RdI w B D m ds) (t : Bool) (A' : Option Addr) (n' c' : Nat) (ys : List Int) (Ry : RdI w B A' n' ys) (D' : Option Addr) (m' k' : Nat) (es : List Int) (Re' : RdI w B D' m' es) :
    Calls Try.prog 43 #[.agg #[.bool s, .slice A n c, .slice D m k], .agg #[.bool t, .slice A' n' c', .slice D' m' k']] w fun e w' => e = .returned (.int .i64 (cmpR s xs ds t ys es)) ∧ Below w.heap.size w w' := by
  have HNO := hide (cmpR_noR (s := s) (t := t) (xs := xs) (ds := ds) (ys := ys) (es := es))
  have HOK := hide (cmpR_okR (s := s) (t := t) (xs := xs) (ds := ds) (ys := ys) (es := es))
  generalize cmpR s xs ds t ys es = Z at HNO HOK ⊢
  obtain ⟨W0, hW0⟩ : ∃ W0, W0 = ((w.alloc (.cells #[.bool s, .slice A n c, .slice D m k] 56)).alloc (.cells #[.bool t, .slice A' n' c', .slice D' m' k'] 56)) := ⟨_, rfl⟩
  have hb0 : Below w.heap.size w W0 := by rw [hW0]; exact below_alloc (below_new _ _) _
  have kx : Box W0 (w.heap.size) 56 #[.bool s, .slice A n c, .slice D m k] := by rw [hW0]; exact (Box.last _ _ _ rfl).alloc _
  have ky : Box W0 (w.heap.size + 1) 56 #[.bool t, .slice A' n' c', .slice D' m' k'] := by rw [hW0]; exact Box.last _ _ _ (alloc_size _ _).symm
  have hs0 : W0.heap.size = w.heap.size + 2 := by rw [hW0, alloc_size, alloc_size]
  go_enter Try.func43, Try.ntmps43
  go_upto_region 1 with fail
  rw [← hW0]
  clear hW0
  obtain ⟨a0, a1, a2⟩ := kx.cells3
  obtain ⟨b0, b1, b2⟩ := ky.cells3
  go_wp2_with fail
  refine (spec_RatOk W0 B (by omega) s A n c xs (Rx.below (hb0.mono hB)) D m k ds (Rd'.below (hb0.mono hB))).mono ?_
  rintro e w1 ⟨rfl, hb1⟩
  have kx1 := kx.below hb1 kx.lt
  have ky1 := ky.below hb1 ky.lt
  have hs1 := hb1.size
  have hb1' := below_then hb0 hb1
  clear a0 a1 a2 b0 b1 b2 kx ky hb0 hb1
  by_cases hr : ratB s xs ds = true
  · rw [hr]
    obtain ⟨a0, a1, a2⟩ := kx1.cells3
    obtain ⟨b0, b1, b2⟩ := ky1.cells3
    go_wp2_with fail
    refine (spec_RatOk w1 B (by omega) t A' n' c' ys (Ry.below (hb1'.mono hB)) D' m' k' es (Re'.below (hb1'.mono hB))).mono ?_
    rintro e w2 ⟨rfl, hb2⟩
    have kx2 := kx1.below hb2 kx1.lt
    have ky2 := ky1.below hb2 ky1.lt
    have hs2 := hb2.size
    have hb2' := below_then hb1' hb2
    clear a0 a1 a2 b0 b1 b2 kx1 ky1 hb1' hb2
    by_cases hq : ratB t ys es = true
    · rw [hq]
      have hz := HOK.out hr hq
      obtain ⟨a0, a1, a2⟩ := kx2.cells3
      obtain ⟨b0, b1, b2⟩ := ky2.cells3
      clear HNO HOK
      subst hz
      have HCP := hide (spec_ratCmp w2 B (by omega) s A n c xs (Rx.below (hb2'.mono hB)) D m k ds (Rd'.below (hb2'.mono hB)) hr t A' n' c' ys (Ry.below (hb2'.mono hB)) D' m' k' es (Re'.below (hb2'.mono hB)) hq)
      clear hr hq
      go_wp2_with fail
      refine HCP.out.mono ?_
      rintro e w3 ⟨rfl, hb3⟩
      have hb3' := below_then hb2' hb3
      go_wp2_with fail
      go_ret
      exact ⟨rfl, hb3'⟩
    · have hq : ratB t ys es = false := by simpa using hq
      have hz := HNO.out (.inr hq)
      subst hz
      rw [hq]
      clear HNO HOK
      go_wp2_with fail
      go_ret
      exact ⟨rfl, hb2'⟩
  · have hr : ratB s xs ds = false := by simpa using hr
    have hz := HNO.out (.inl hr)
    subst hz
    rw [hr]
    clear HNO HOK
    go_wp2_with fail
    go_ret
    exact ⟨rfl, hb1'⟩
end Go.Proofs.Ytocllmaikngoaaa
