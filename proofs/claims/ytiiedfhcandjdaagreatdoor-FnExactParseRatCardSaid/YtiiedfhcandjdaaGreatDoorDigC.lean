/-
  What IsDigits answers, of the program: rune by rune; and the law's walk.
-/
import Derived.Test.YtiiedfhcandjdaaGreatDoorDigI
namespace Go.Proofs.YtiiedfhcandjdaaGreatDoor
open Go.RowKit
set_option linter.unusedVariables false

set_option maxHeartbeats 400000 in
theorem impl_IsDigits (s : ByteArray) (w : World) (hs : s.size ≤ maxLen) :
    Calls Tryz.prog 32 #[.string s] w fun e w' => e = .returned (.bool (digsB s)) ∧ ∃ pos, w' = w.iter s pos := by
  unfold maxLen at hs
  go_enter Tryz.func32, Tryz.ntmps32
  go_wp2
  go_loopw [4] (fun _ w' => ∃ pos : Nat, w' = w.iter s pos ∧ pos ≤ s.size ∧ Hid (∀ j (h : j < s.size), j < pos → digB s[j] = true)) (fun _ w' => s.size - w'.iterPos w.heap.size)
  case atStart => exact ⟨0, rfl, Nat.zero_le _, fun j _ h => absurd h (Nat.not_lt_zero _)⟩
  case round =>
    obtain ⟨pos, rfl, hk, H⟩ := hrel
    by_cases hp : pos < s.size
    · by_cases ha : s[pos].toNat < 128
      · have hnx : ∀ ty, (Instr.next (.pointer (some ⟨w.heap.size, 0, none⟩)) true ty).run Tryz.prog (w.iter s pos) = _ := fun ty => run_next_ascii w s pos ty hp ha
        by_cases hd : 48 ≤ s[pos].toNat ∧ s[pos].toNat ≤ 57
        · have HN : Hid (∀ j (h : j < s.size), j < pos + 1 → digB s[j] = true) := fun j hj hjk => by
            by_cases e : j = pos
            · subst e; simp [digB]; omega
            · exact H.out j hj (by omega)
          clear H
          obtain ⟨hd1, hd2⟩ := hd
          go_wp2_with (go_at_call 49; refine (isDigit_yes _ _ (by omega) (by omega)).mono ?_; rintro e w' ⟨rfl, rfl⟩)
          go_roundw
          case rel => exact ⟨pos + 1, rfl, by omega, HN⟩
          case measure => simp; omega
        · have HB : Hid (digsB s = false) := digsB_bad hp (by simp [digB]; omega)
          go_wp2_with (go_at_call 49; refine (isDigit_no _ _ (by omega)).mono ?_; rintro e w' ⟨rfl, rfl⟩)
          go_ret
          exact ⟨ret_bool HB.out.symm, _, rfl⟩
      · have hnx : ∀ ty, (Instr.next (.pointer (some ⟨w.heap.size, 0, none⟩)) true ty).run Tryz.prog (w.iter s pos) = _ := fun ty => run_next_any w s pos ty hp
        have hr := (decode_high s pos hp (by omega)).1
        have HB : Hid (digsB s = false) := digsB_bad hp (by simp [digB]; omega)
        clear H
        go_wp2_with (go_at_call 49; refine (isDigit_no _ _ (by omega)).mono ?_; rintro e w' ⟨rfl, rfl⟩)
        go_ret
        exact ⟨ret_bool HB.out.symm, _, rfl⟩
    · have hnx : ∀ ty, (Instr.next (.pointer (some ⟨w.heap.size, 0, none⟩)) true ty).run Tryz.prog (w.iter s pos) = _ := fun ty => run_next_end w s pos ty hp
      by_cases h0 : 0 < s.size
      · have HB : Hid (digsB s = true) := digsB_true h0 fun i hi => H.out i hi (by omega)
        have he := nonempty_f h0
        clear H
        go_wp2
        go_ret
        exact ⟨ret_bool HB.out.symm, _, rfl⟩
      · have HB : Hid (digsB s = false) := digsB_nil (by omega)
        have he := nonempty_t (s := s) (by omega)
        clear H
        go_wp2
        go_ret
        exact ⟨ret_bool HB.out.symm, _, rfl⟩

end Go.Proofs.YtiiedfhcandjdaaGreatDoor
