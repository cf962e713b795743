/-
  The walk of the exact law of ParseVec.
-/
import Derived.Test.YtnbaookdeijhhaaDoorPtP
import Derived.Test.YtnbaookdeijhhaaDoorPtL
import Derived.Deep.RegionHeld3
import Derived.Deep.CutRange
import Derived.Sort.AtCall
namespace Go.Proofs.YtnbaookdeijhhaaDoor
open Go.RowKit
set_option linter.unusedVariables false
set_option maxRecDepth 100000 in
set_option maxHeartbeats 16000000 in
theorem FnExactParseVec_walk (w : World) (s : ByteArray) (hs : s.size ≤ maxLen) (hE : Sent w "strconv.ErrSyntax") (hR : Sent w "strconv.ErrRange") (hPT : PowTab w) (ml : Int) (hML : w.cell? ⟨0, 0, none⟩ = some (.int .i64 ml)) (hg0 : 0 < w.heap.size) :
    Calls Tryd.prog 4 #[.string s] w fun e w' => e = .returned (.bool true) ∧ Below w.heap.size w w' := by
  have hm := hs
  unfold maxLen at hm
  by_cases c0 : 1048576 < s.size
  · clear hE hR hPT hML
    go_enter Tryd.func4, Tryd.ntmps4
    go_wp2
    go_ret
    exact ⟨rfl, Below.refl _ _⟩
  have hn : s.size ≤ 1048576 := by omega
  clear c0 hm hs
  have hT0 : Below w.heap.size w w := Below.refl _ _
  obtain ⟨hx, hy⟩ := parV_wf s
  have PL := hPT.lt
  have GL := Tryd.gltS
  have HE := hide hE
  have HR := hide hR
  have HPT := hide hPT
  have HML := hide hML
  clear hE hR hPT hML
  go_enter Tryd.func4, Tryd.ntmps4
  go_wp2_with fail
  refine (spec_ParseVec w s hn).mono ?_
  rintro e w1 ⟨rfl, hb1⟩
  have hs1 := hb1.size
  have hT1 := below_then hT0 hb1
  clear hT0
  clear hb1
  obtain ⟨w2, hw2⟩ : ∃ xw, xw = (w1.alloc (.cells #[.int .i64 (parV s).1, .int .i64 (parV s).2] 25)) := ⟨_, rfl⟩
  have hb2 : Below w1.heap.size w1 w2 := by rw [hw2]; exact below_new _ _
  have hq2 : w2.heap.size = w1.heap.size + 1 := by rw [hw2, alloc_size]
  have kv : Box w2 (w1.heap.size) 25 #[.int .i64 (parV s).1, .int .i64 (parV s).2] := by rw [hw2]; exact Box.last _ _ _ (by omega)
  have hs2 := hb2.size
  have hT2 := below_then hT1 hb2
  clear hT1
  go_upto_region 4 with fail
  rw [← hw2]
  clear hw2 hb2
  go_wp2_with fail
  refine (impl_ParseVec w2 s hn (HPT.out.below hT2 PL) (HE.out.below Tryd.gSyn hT2 (by omega)) (HR.out.below Tryd.gRng hT2 (by omega)) ml ((hT2.cell hg0).trans HML.out) (Nat.lt_of_lt_of_le hg0 hT2.size)).mono ?_
  rintro e w3 ⟨rfl, hb3⟩
  have hs3 := hb3.size
  have hT3 := below_then hT2 hb3
  have kv := kv.below hb3 kv.lt
  clear hT2
  clear hb3
  obtain ⟨w4, hw4⟩ : ∃ xw, xw = (w3.alloc (.cells #[.int .i64 (parV s).1, .int .i64 (parV s).2] 25)) := ⟨_, rfl⟩
  have hb4 : Below w3.heap.size w3 w4 := by rw [hw4]; exact below_new _ _
  have hq4 : w4.heap.size = w3.heap.size + 1 := by rw [hw4, alloc_size]
  have kg : Box w4 (w3.heap.size) 25 #[.int .i64 (parV s).1, .int .i64 (parV s).2] := by rw [hw4]; exact Box.last _ _ _ (by omega)
  have hs4 := hb4.size
  have hT4 := below_then hT3 hb4
  have kv := kv.below hb4 kv.lt
  clear hT3
  go_upto_region 5 with fail
  rw [← hw4]
  clear hw4 hb4
  obtain ⟨yg0, yg1⟩ := kg.cells2
  obtain ⟨yv0, yv1⟩ := kv.cells2
  go_wp2_with fail
  refine (eqVec_any w4 (parV s).1 (parV s).2 hx hy).mono ?_
  rintro e w5 ⟨rfl, hb5⟩
  clear yg0 yg1 yv0 yv1
  have hs5 := hb5.size
  have hT5 := below_then hT4 hb5
  have kv := kv.below hb5 kv.lt
  have kg := kg.below hb5 kg.lt
  clear hT4
  clear hb5
  go_wp2
  go_ret
  exact ⟨rfl, hT5⟩
end Go.Proofs.YtnbaookdeijhhaaDoor
