/-
  What SplitLines answers, of the program and of the reference, and the walks of the laws of SplitAny and SplitLines.
-/
import Derived.Test.YtpepbjmjgkgalaaSplit
namespace Go.Proofs.Ytpepbjmjgkgalaa
open Go.RowKit
set_option linter.unusedVariables false

/-- the last piece of a text, and its lines -/
def lastPiece (s : ByteArray) : ByteArray := (splitL s ⟨#[10]⟩).getD ((splitL s ⟨#[10]⟩).length - 1) ByteArray.empty
def linesL (s : ByteArray) : List ByteArray := if (lastPiece s).size = 0 then (splitL s ⟨#[10]⟩).take ((splitL s ⟨#[10]⟩).length - 1) else splitL s ⟨#[10]⟩
theorem linesL_len (s : ByteArray) : (linesL s).length ≤ s.size + 1 := by
  have := splitL_len s ⟨#[10]⟩
  unfold linesL
  split
  · rw [List.length_take]; omega
  · omega

set_option maxHeartbeats 400000 in
theorem spec_SplitLines (s : ByteArray) (w : World) (hs : s.size ≤ 1099511627776) :
    Calls Try.prog 18 #[.string s] w fun e w' => ∃ v, e = .returned v ∧ w'.ownsRow w.heap.size 9 1 v (linesL s).length (sv (linesL s)) ∧ Below w.heap.size w w' := by
  have hl := splitL_len s ⟨#[10]⟩
  go_enter Try.func18, Try.ntmps18
  go_wp2_with fail
  refine (spec_SplitAny s ⟨#[10]⟩ w hs (by decide)).mono ?_
  rintro e w1 ⟨v, rfl, hown, hb⟩
  have HP : Hid (lastPiece s = (splitL s ⟨#[10]⟩).getD ((splitL s ⟨#[10]⟩).length - 1) ByteArray.empty) := rfl
  have HL : Hid (linesL s = if (lastPiece s).size = 0 then (splitL s ⟨#[10]⟩).take ((splitL s ⟨#[10]⟩).length - 1) else splitL s ⟨#[10]⟩) := rfl
  generalize splitL s ⟨#[10]⟩ = ps at *
  rcases own_form hown with ⟨rfl, h0, _⟩ | ⟨g, c, rfl, hg, hgl⟩
  · omega
  · have hc : w1.cell? ⟨g, ps.length - 1, none⟩ = some (.string (lastPiece s)) := by
      rw [hown.cellAt _ (by omega), HP.out]
      simp [sv, List.getD, List.getElem?_eq_getElem (show ps.length - 1 < ps.length by omega)]
    have hncap : ps.length ≤ c := by
      rcases hown.2 with ⟨h', _⟩ | ⟨g', c', cur, hv, _, _, hnc, _⟩
      · cases h'
      · injection hv with _ _ h3; omega
    obtain ⟨hl1, hl2⟩ := hl
    have hN := hide (own_cut (m := ps.length - 1) hown (by omega))
    have hO := hide hown
    clear hown HP
    by_cases h0 : (lastPiece s).size = 0
    · have he := nonempty_t h0
      have HE : Hid (linesL s = ps.take (ps.length - 1)) := by show _ = _; rw [HL.out, if_pos h0]
      clear h0 HL
      generalize hn : ps.length = n at *
      have hn' : Hid (ps.length = n) := hn
      clear hn
      go_wp2
      go_ret
      refine ⟨_, rfl, ?_, hb⟩
      have hlen : (ps.take (n - 1)).length = n - 1 := by rw [List.length_take]; have := hn'.out; omega
      rw [HE.out, hlen, sv_take]
      exact hN.out
    · have he := nonempty_f (s := lastPiece s) (by omega)
      have HE : Hid (linesL s = ps) := by show _ = _; rw [HL.out, if_neg h0]
      clear h0 HL
      go_wp2
      go_ret
      exact ⟨_, rfl, by rw [HE.out]; exact hO.out, hb⟩

set_option maxHeartbeats 400000 in
theorem impl_SplitLines (s : ByteArray) (w : World) (hs : s.size ≤ 1099511627776) :
    Calls Try.prog 19 #[.string s] w fun e w' => ∃ v, e = .returned v ∧ w'.ownsRow w.heap.size 9 1 v (linesL s).length (sv (linesL s)) ∧ Below w.heap.size w w' := by
  have hl := splitL_len s ⟨#[10]⟩
  go_enter Try.func19, Try.ntmps19
  go_wp2_with fail
  refine (impl_SplitAny s ⟨#[10]⟩ w hs (by decide)).mono ?_
  rintro e w1 ⟨v, rfl, hown, hb⟩
  have HP : Hid (lastPiece s = (splitL s ⟨#[10]⟩).getD ((splitL s ⟨#[10]⟩).length - 1) ByteArray.empty) := rfl
  have HL : Hid (linesL s = if (lastPiece s).size = 0 then (splitL s ⟨#[10]⟩).take ((splitL s ⟨#[10]⟩).length - 1) else splitL s ⟨#[10]⟩) := rfl
  generalize splitL s ⟨#[10]⟩ = ps at *
  rcases own_form hown with ⟨rfl, h0, _⟩ | ⟨g, c, rfl, hg, hgl⟩
  · omega
  · have hc : w1.cell? ⟨g, ps.length - 1, none⟩ = some (.string (lastPiece s)) := by
      rw [hown.cellAt _ (by omega), HP.out]
      simp [sv, List.getD, List.getElem?_eq_getElem (show ps.length - 1 < ps.length by omega)]
    have hncap : ps.length ≤ c := by
      rcases hown.2 with ⟨h', _⟩ | ⟨g', c', cur, hv, _, _, hnc, _⟩
      · cases h'
      · injection hv with _ _ h3; omega
    obtain ⟨hl1, hl2⟩ := hl
    have hN := hide (own_cut (m := ps.length - 1) hown (by omega))
    have hO := hide hown
    clear hown HP
    by_cases h0 : (lastPiece s).size = 0
    · have he := nonempty_t h0
      have HE : Hid (linesL s = ps.take (ps.length - 1)) := by show _ = _; rw [HL.out, if_pos h0]
      clear h0 HL
      generalize hn : ps.length = n at *
      have hn' : Hid (ps.length = n) := hn
      clear hn
      go_wp2
      go_ret
      refine ⟨_, rfl, ?_, hb⟩
      have hlen : (ps.take (n - 1)).length = n - 1 := by rw [List.length_take]; have := hn'.out; omega
      rw [HE.out, hlen, sv_take]
      exact hN.out
    · have he := nonempty_f (s := lastPiece s) (by omega)
      have HE : Hid (linesL s = ps) := by show _ = _; rw [HL.out, if_neg h0]
      clear h0 HL
      go_wp2
      go_ret
      exact ⟨_, rfl, by rw [HE.out]; exact hO.out, hb⟩

set_option maxHeartbeats 1600000 in
theorem FnExactSplitAny_walk (w : World) (s : ByteArray) (hs : s.size ≤ maxLen) (b : ByteArray) (hb : b.size ≤ maxLen) :
    Calls Try.prog 5 #[.string s, .string b] w fun e w' => e = .returned (.bool true) ∧ Below w.heap.size w w' := by
  have hms := hs
  unfold maxLen at hms
  have hmb := hb
  unfold maxLen at hmb
  by_cases cs : 1048576 < s.size
  · go_enter Try.func5, Try.ntmps5
    go_wp2
    go_ret
    exact ⟨rfl, Below.refl _ _⟩
  by_cases cb : 1048576 < b.size
  · go_enter Try.func5, Try.ntmps5
    go_wp2
    go_ret
    exact ⟨rfl, Below.refl _ _⟩
  · go_enter Try.func5, Try.ntmps5
    go_wp2_with fail
    refine (spec_SplitAny s b w (by omega) (by omega)).mono ?_
    rintro e w1 ⟨v0, rfl, ho0, hb1⟩
    obtain ⟨A0, c0, rfl, hx0l, hn0, hr0⟩ := own_reads ho0
    clear ho0
    go_wp2_with fail
    refine (impl_SplitAny s b w1 (by omega) (by omega)).mono ?_
    rintro e w2 ⟨v1, rfl, ho1, hb2⟩
    have hr0' := hr0.below hb2
    clear hr0
    have hs12 := hb2.size
    have hs01 := hb1.size
    have hlen : (splitL s b).length ≤ 1048577 := by have := (splitL_len s b).2; omega
    have hlenm : (splitL s b).length ≤ maxLen := by unfold maxLen; omega
    rw [sv_len] at hx0l
    obtain ⟨A1, c1, rfl, _, _, hr1⟩ := own_reads ho1
    go_wp2_with fail
    refine (eqStringS_below A1 A0 (splitL s b).length (splitL s b).length c1 c0 (splitL s b) (splitL s b) _ w2 rfl rfl hr1 (hr0'.wider hs12) hlenm hlenm true (decide_eq_true rfl)).mono ?_
    rintro e w3 ⟨rfl, hb3⟩
    have ho2 := own_grown ho1 hb3
    have hr03 := hr0'.below (hb3.mono hs12)
    have hs23 := hb3.size
    clear ho1 hr1 hr0'
    go_wp2_with fail
    refine (markStringS_any (.slice A1 (splitL s b).length c1) (splitL s b).length 1 _ _ _ w3 ho2 (by omega) (by omega) (by omega)).mono ?_
    rintro e w4 ⟨rfl, ho4, hb4⟩
    have hr04 := hr03.below hb4
    have hs34 := hb4.size
    clear ho2 hr03
    have hr4 := own_rd ho4
    go_wp2_with fail
    refine (heldStringS_any A1 (splitL s b).length c1 1 _ w4 hr4 (Nat.le_refl _) (by omega) (by omega)).mono ?_
    rintro e w5 ⟨rfl, hb5⟩
    have hr45 := hr4.below hb5
    have hr05 := hr04.below (hb5.mono (by omega))
    have hs45 := hb5.size
    clear hr4 ho4 hr04
    go_wp2_with fail
    refine (impl_SplitAny s b w5 (by omega) (by omega)).mono ?_
    rintro e w6 ⟨v6, rfl, ho6, hb6⟩
    have hr46 := hr45.below (hb6.mono hs45)
    have hr06 := hr05.below (hb6.mono (by omega))
    have hs56 := hb6.size
    clear hr45 hr05
    obtain ⟨A6, c6, rfl, _, _, hr6⟩ := own_reads ho6
    clear ho6
    go_wp2_with fail
    refine (eqStringS_below A6 A0 (splitL s b).length (splitL s b).length c6 c0 (splitL s b) (splitL s b) _ w6 rfl rfl hr6 (hr06.wider (by omega)) hlenm hlenm true (decide_eq_true rfl)).mono ?_
    rintro e w7 ⟨rfl, hb7⟩
    have hr47 := hr46.below (hb7.mono (by omega))
    have hs67 := hb7.size
    clear hr46 hr06 hr6
    go_wp2_with fail
    refine (heldStringS_any A1 (splitL s b).length c1 1 _ w7 hr47 (by omega) (by omega) (by omega)).mono ?_
    rintro e w8 ⟨rfl, hb8⟩
    clear hr47
    go_wp2
    go_ret
    exact ⟨rfl, (((((((hb1.trans (hb2.mono (by omega))).trans (hb3.mono (by omega))).trans (hb4.mono (by omega))).trans (hb5.mono (by omega))).trans (hb6.mono (by omega))).trans (hb7.mono (by omega))).trans (hb8.mono (by omega)))⟩

set_option maxHeartbeats 1600000 in
theorem FnExactSplitLines_walk (w : World) (s : ByteArray) (hs : s.size ≤ maxLen) :
    Calls Try.prog 6 #[.string s] w fun e w' => e = .returned (.bool true) ∧ Below w.heap.size w w' := by
  have hms := hs
  unfold maxLen at hms
  by_cases cs : 1048576 < s.size
  · go_enter Try.func6, Try.ntmps6
    go_wp2
    go_ret
    exact ⟨rfl, Below.refl _ _⟩
  · go_enter Try.func6, Try.ntmps6
    go_wp2_with fail
    refine (spec_SplitLines s w (by omega)).mono ?_
    rintro e w1 ⟨v0, rfl, ho0, hb1⟩
    obtain ⟨A0, c0, rfl, hx0l, hn0, hr0⟩ := own_reads ho0
    clear ho0
    go_wp2_with fail
    refine (impl_SplitLines s w1 (by omega)).mono ?_
    rintro e w2 ⟨v1, rfl, ho1, hb2⟩
    have hr0' := hr0.below hb2
    clear hr0
    have hs12 := hb2.size
    have hs01 := hb1.size
    have hlen : (linesL s).length ≤ 1048577 := by have := linesL_len s; omega
    have hlenm : (linesL s).length ≤ maxLen := by unfold maxLen; omega
    rw [sv_len] at hx0l
    obtain ⟨A1, c1, rfl, _, _, hr1⟩ := own_reads ho1
    go_wp2_with fail
    refine (eqStringS_below A1 A0 (linesL s).length (linesL s).length c1 c0 (linesL s) (linesL s) _ w2 rfl rfl hr1 (hr0'.wider hs12) hlenm hlenm true (decide_eq_true rfl)).mono ?_
    rintro e w3 ⟨rfl, hb3⟩
    have ho2 := own_grown ho1 hb3
    have hr03 := hr0'.below (hb3.mono hs12)
    have hs23 := hb3.size
    clear ho1 hr1 hr0'
    go_wp2_with fail
    refine (markStringS_any (.slice A1 (linesL s).length c1) (linesL s).length 1 _ _ _ w3 ho2 (by omega) (by omega) (by omega)).mono ?_
    rintro e w4 ⟨rfl, ho4, hb4⟩
    have hr04 := hr03.below hb4
    have hs34 := hb4.size
    clear ho2 hr03
    have hr4 := own_rd ho4
    go_wp2_with fail
    refine (heldStringS_any A1 (linesL s).length c1 1 _ w4 hr4 (Nat.le_refl _) (by omega) (by omega)).mono ?_
    rintro e w5 ⟨rfl, hb5⟩
    have hr45 := hr4.below hb5
    have hr05 := hr04.below (hb5.mono (by omega))
    have hs45 := hb5.size
    clear hr4 ho4 hr04
    go_wp2_with fail
    refine (impl_SplitLines s w5 (by omega)).mono ?_
    rintro e w6 ⟨v6, rfl, ho6, hb6⟩
    have hr46 := hr45.below (hb6.mono hs45)
    have hr06 := hr05.below (hb6.mono (by omega))
    have hs56 := hb6.size
    clear hr45 hr05
    obtain ⟨A6, c6, rfl, _, _, hr6⟩ := own_reads ho6
    clear ho6
    go_wp2_with fail
    refine (eqStringS_below A6 A0 (linesL s).length (linesL s).length c6 c0 (linesL s) (linesL s) _ w6 rfl rfl hr6 (hr06.wider (by omega)) hlenm hlenm true (decide_eq_true rfl)).mono ?_
    rintro e w7 ⟨rfl, hb7⟩
    have hr47 := hr46.below (hb7.mono (by omega))
    have hs67 := hb7.size
    clear hr46 hr06 hr6
    go_wp2_with fail
    refine (heldStringS_any A1 (linesL s).length c1 1 _ w7 hr47 (by omega) (by omega) (by omega)).mono ?_
    rintro e w8 ⟨rfl, hb8⟩
    clear hr47
    go_wp2
    go_ret
    exact ⟨rfl, (((((((hb1.trans (hb2.mono (by omega))).trans (hb3.mono (by omega))).trans (hb4.mono (by omega))).trans (hb5.mono (by omega))).trans (hb6.mono (by omega))).trans (hb7.mono (by omega))).trans (hb8.mono (by omega)))⟩
end Go.Proofs.Ytpepbjmjgkgalaa
