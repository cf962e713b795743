/-
  The texts DigI, DigC, put together; each has its own heading below. No condition of ours.
-/
import Derived.Test.YtnbaookdeijhhaaGreatDoorPA
/-
  What isDigit answers.
-/

namespace Go.Proofs.YtnbaookdeijhhaaGreatDoor
open Go.RowKit
set_option linter.unusedVariables false

/-! ### the program's, rune by rune -/
theorem isDigit_yes (r : Int) (w : World) (h1 : 48 ≤ r) (h2 : r ≤ 57) :
    Calls Tryz.prog 132 #[.int .i32 r] w fun e w' => e = .returned (.bool true) ∧ w = w' := by
  go_enter Tryz.func132, Tryz.ntmps132
  go_wp2
  go_ret
  exact ⟨rfl, rfl⟩

theorem isDigit_no (r : Int) (w : World) (h : r < 48 ∨ 57 < r) :
    Calls Tryz.prog 132 #[.int .i32 r] w fun e w' => e = .returned (.bool false) ∧ w = w' := by
  rcases h with h | h
  · go_enter Tryz.func132, Tryz.ntmps132
    go_wp2
    go_ret
    exact ⟨rfl, rfl⟩
  · have h' : 48 ≤ r := by omega
    go_enter Tryz.func132, Tryz.ntmps132
    go_wp2
    go_ret
    exact ⟨ret_bool (a := decide (r ≤ 57)) (by simp; omega), rfl⟩

theorem below_iter {B : Nat} {a w : World} (h : Below B a w) (hB : B ≤ w.heap.size) (s : ByteArray) (pos : Nat) : Below B a (w.iter s pos) := h.alloc hB _
end Go.Proofs.YtnbaookdeijhhaaGreatDoor

/-
  What IsDigits answers, of the program: rune by rune; and the law's walk.
-/

namespace Go.Proofs.YtnbaookdeijhhaaGreatDoor
open Go.RowKit
set_option linter.unusedVariables false

set_option maxHeartbeats 400000 in
theorem impl_IsDigits (s : ByteArray) (w : World) (hs : s.size ≤ maxLen) :
    Calls Tryz.prog 84 #[.string s] w fun e w' => e = .returned (.bool (digsB s)) ∧ ∃ pos, w' = w.iter s pos := by
  unfold maxLen at hs
  go_enter Tryz.func84, Tryz.ntmps84
  go_wp2
  go_loopw [4] (fun _ w' => ∃ pos : Nat, w' = w.iter s pos ∧ pos ≤ s.size ∧ Hid (∀ j (h : j < s.size), j < pos → digB s[j] = true)) (fun _ w' => s.size - w'.iterPos w.heap.size)
  case atStart => exact ⟨0, rfl, Nat.zero_le _, fun j _ h => absurd h (Nat.not_lt_zero _)⟩
  case round =>
    obtain ⟨pos, rfl, hk, H⟩ := hrel
    by_cases hp : pos < s.size
    · by_cases ha : s[pos].toNat < 128
      · have hnx : ∀ ty, (Instr.next (.pointer (some ⟨w.heap.size, 0, none⟩)) true ty).run Tryz.prog (w.iter s pos) = _ := fun ty => run_next_ascii w s pos ty hp ha
        by_cases hd : 48 ≤ s[pos].toNat ∧ s[pos].toNat ≤ 57
        · have HN : Hid (∀ j (h : j < s.size), j < pos + 1 → digB s[j] = true) := fun j hj hjk => by
            by_cases e : j = pos
            · subst e; simp [digB]; omega
            · exact H.out j hj (by omega)
          clear H
          obtain ⟨hd1, hd2⟩ := hd
          go_wp2_with (go_at_call 132; refine (isDigit_yes _ _ (by omega) (by omega)).mono ?_; rintro e w' ⟨rfl, rfl⟩)
          go_roundw
          case rel => exact ⟨pos + 1, rfl, by omega, HN⟩
          case measure => simp; omega
        · have HB : Hid (digsB s = false) := digsB_bad hp (by simp [digB]; omega)
          go_wp2_with (go_at_call 132; refine (isDigit_no _ _ (by omega)).mono ?_; rintro e w' ⟨rfl, rfl⟩)
          go_ret
          exact ⟨ret_bool HB.out.symm, _, rfl⟩
      · have hnx : ∀ ty, (Instr.next (.pointer (some ⟨w.heap.size, 0, none⟩)) true ty).run Tryz.prog (w.iter s pos) = _ := fun ty => run_next_any w s pos ty hp
        have hr := (decode_high s pos hp (by omega)).1
        have HB : Hid (digsB s = false) := digsB_bad hp (by simp [digB]; omega)
        clear H
        go_wp2_with (go_at_call 132; refine (isDigit_no _ _ (by omega)).mono ?_; rintro e w' ⟨rfl, rfl⟩)
        go_ret
        exact ⟨ret_bool HB.out.symm, _, rfl⟩
    · have hnx : ∀ ty, (Instr.next (.pointer (some ⟨w.heap.size, 0, none⟩)) true ty).run Tryz.prog (w.iter s pos) = _ := fun ty => run_next_end w s pos ty hp
      by_cases h0 : 0 < s.size
      · have HB : Hid (digsB s = true) := digsB_true h0 fun i hi => H.out i hi (by omega)
        have he := nonempty_f h0
        clear H
        go_wp2
        go_ret
        exact ⟨ret_bool HB.out.symm, _, rfl⟩
      · have HB : Hid (digsB s = false) := digsB_nil (by omega)
        have he := nonempty_t (s := s) (by omega)
        clear H
        go_wp2
        go_ret
        exact ⟨ret_bool HB.out.symm, _, rfl⟩

end Go.Proofs.YtnbaookdeijhhaaGreatDoor
