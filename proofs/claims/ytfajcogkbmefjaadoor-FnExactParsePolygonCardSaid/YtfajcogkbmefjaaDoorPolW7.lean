/-
  The exact laws' walks: ParsePolygon.
-/
import Derived.Test.YtfajcogkbmefjaaDoorVecL2
import Derived.Test.YtfajcogkbmefjaaDoorPolP
namespace Go.Proofs.YtfajcogkbmefjaaDoor
open Go.RowKit
set_option linter.unusedVariables false
theorem impl_ParsePolygonB (w : World) (B : Nat) (hB : B ≤ w.heap.size) (s : ByteArray) (hm : s.size ≤ 1048576) (hPT : PowTab w) (hE : Sent w "strconv.ErrSyntax") (hR : Sent w "strconv.ErrRange") (ml : Int) (hML : w.cell? ⟨0, 0, none⟩ = some (.int .i64 ml)) (hg0 : 0 < w.heap.size) :
    Calls Tryd.prog 11 #[.string s] w fun e w' => ∃ v, e = .returned (.tuple #[v, .bool (okL s)]) ∧ OwnV w' w.heap.size w'.heap.size 36 v (parL s).length (parL s) ∧ Below w.heap.size w w' := impl_ParsePolygon w s hm hPT hE hR ml hML hg0
theorem spec_ParsePolygonB (w : World) (B : Nat) (hB : B ≤ w.heap.size) (s : ByteArray) (hm : s.size ≤ 1048576) :
    Calls Tryd.prog 10 #[.string s] w fun e w' => ∃ v, e = .returned (.tuple #[v, .bool (okL s)]) ∧ OwnV w' w.heap.size w'.heap.size 36 v (parL s).length (parL s) ∧ Below w.heap.size w w' := spec_ParsePolygon w s hm

set_option maxHeartbeats 4000000 in
set_option maxRecDepth 100000 in
theorem FnExactParsePolygon_walk (w : World) (a0 : ByteArray) (f0 : a0.size ≤ maxLen) (hE : Sent w "strconv.ErrSyntax") (hR : Sent w "strconv.ErrRange") (hPT : PowTab w) (ml : Int) (hML : w.cell? ⟨0, 0, none⟩ = some (.int .i64 ml)) (hg0 : 0 < w.heap.size) :
    Calls Tryd.prog 4 #[.string a0] w fun e w' => e = .returned (.bool true) ∧ Below w.heap.size w w' := by
  have hm0 := f0
  unfold maxLen at hm0
  by_cases c0 : 1048576 < a0.size
  · go_enter Tryd.func4, Tryd.ntmps4
    go_wp2
    go_ret
    exact ⟨rfl, Below.refl _ _⟩
  have hn0 : a0.size ≤ 1048576 := by omega
  clear c0
  have hT0 : Below w.heap.size w w := Below.refl _ _
  go_enter Tryd.func4, Tryd.ntmps4
  have hL0 : (parL a0).length ≤ 1048576 := by have := parL_len a0; omega
  have HF0 : Hid (wfV (parL a0)) := parL_wf a0
  go_wp2_with fail
  refine (spec_ParsePolygonB w w.heap.size (Nat.le_refl _) a0 hn0).mono ?_
  rintro e w1 ⟨v0, rfl, o0_1, hb1⟩
  obtain ⟨A0, c0, rfl⟩ := o0_1.form
  have hs1 := hb1.size
  have hT1 := hT0.trans (hb1.mono (by omega))
  clear hT0
  go_wp2_with fail
  refine (impl_ParsePolygonB w1 w1.heap.size (Nat.le_refl _) a0 hn0 (hPT.below hT1 hPT.lt) (hE.below Tryd.gSyn hT1 (by have := hPT.lt; have := Tryd.gltS; omega)) (hR.below Tryd.gRng hT1 (by have := hPT.lt; have := Tryd.gltS; omega)) ml ((hT1.cell hg0).trans hML) (Nat.lt_of_lt_of_le hg0 hT1.size)).mono ?_
  rintro e w2 ⟨v1, rfl, o1_2, hb2⟩
  obtain ⟨A1, c1, rfl⟩ := o1_2.form
  have hs2 := hb2.size
  have o0_2 := o0_1.below hb2 (by omega)
  clear o0_1
  have hT2 := hT1.trans (hb2.mono (by omega))
  clear hT1
  go_wp2_with fail
  refine (eqVecS_any A1 A0 (parL a0).length c1 c0 _ (parL a0) w2 rfl o1_2.rd o0_2.rd (Nat.le_refl _) (by omega) HF0.out).mono ?_
  rintro e w3 ⟨rfl, hb3⟩
  have hs3 := hb3.size
  have o0_3 := o0_2.below hb3 (by omega)
  clear o0_2
  have o1_3 := o1_2.below hb3 (by omega)
  clear o1_2
  have hT3 := hT2.trans (hb3.mono (by omega))
  clear hT2
  go_wp2_with fail
  refine (markVecS_own (.slice A1 (parL a0).length c1) (parL a0).length 1 _ _ _ _ w3 o1_3 (by omega) (by omega)).mono ?_
  rintro e w4 ⟨he, p1, ha4⟩
  obtain ⟨K1, hK1⟩ : ∃ K : Nat, K = 1 + (parL a0).length * 2 := ⟨_, rfl⟩
  have bK1 : K1 ≤ 3000010 := by omega
  rw [← hK1] at he
  subst he
  have HK1 := hide hK1
  clear hK1
  have hs4 := ha4.size
  have o0_4 := o0_3.aside ha4 (by omega)
  clear o0_3
  have hT4 := hT3.trans (ha4.below (by omega) (by omega))
  clear hT3
  have o1_4 := p1
  clear p1 o1_3
  go_wp2_with fail
  refine (heldVecS_any A1 (parL a0).length c1 1 _ w4 o1_4.rd (by omega) (by omega)).mono ?_
  rintro e w' ⟨he, rfl⟩
  rw [← HK1.out] at he
  subst he
  go_wp2_with fail
  refine (impl_ParsePolygonB w4 w4.heap.size (Nat.le_refl _) a0 hn0 (hPT.below hT4 hPT.lt) (hE.below Tryd.gSyn hT4 (by have := hPT.lt; have := Tryd.gltS; omega)) (hR.below Tryd.gRng hT4 (by have := hPT.lt; have := Tryd.gltS; omega)) ml ((hT4.cell hg0).trans hML) (Nat.lt_of_lt_of_le hg0 hT4.size)).mono ?_
  rintro e w5 ⟨v2, rfl, o2_5, hb5⟩
  obtain ⟨A2, c2, rfl⟩ := o2_5.form
  have hs5 := hb5.size
  have o0_5 := o0_4.below hb5 (by omega)
  clear o0_4
  have o1_5 := o1_4.below hb5 (by omega)
  clear o1_4
  have hT5 := hT4.trans (hb5.mono (by omega))
  clear hT4
  go_wp2_with fail
  refine (eqVecS_any A2 A0 (parL a0).length c2 c0 _ (parL a0) w5 rfl o2_5.rd o0_5.rd (Nat.le_refl _) (by omega) HF0.out).mono ?_
  rintro e w6 ⟨rfl, hb6⟩
  have hs6 := hb6.size
  have o0_6 := o0_5.below hb6 (by omega)
  clear o0_5
  have o1_6 := o1_5.below hb6 (by omega)
  clear o1_5
  have o2_6 := o2_5.below hb6 (by omega)
  clear o2_5
  have hT6 := hT5.trans (hb6.mono (by omega))
  clear hT5
  go_wp2_with fail
  refine (heldVecS_any A1 (parL a0).length c1 1 _ w6 o1_6.rd (by omega) (by omega)).mono ?_
  rintro e w' ⟨he, rfl⟩
  rw [← HK1.out] at he
  subst he
  clear o0_6
  clear o1_6
  clear o2_6
  go_wp2
  go_ret
  exact ⟨rfl, hT6⟩
end Go.Proofs.YtfajcogkbmefjaaDoor
