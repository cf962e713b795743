/-
  What IsDigits and IsName answer, of the program and of the reference: walks (contracts) over their translation.
-/
import Derived.Test.YtpepbjmjgkgalaaMem
import Derived.WalkKit
import Derived.WalkSpells
import Derived.WalkLawsBesides
import Derived.ProofKit
namespace Go.Proofs.Ytpepbjmjgkgalaa
open Go.RowKit

/-! ### plain -/
/-- is the byte a decimal digit? -/
def digB (c : UInt8) : Bool := decide (48 ≤ c.toNat ∧ c.toNat ≤ 57)
def lowB (c : UInt8) : Bool := decide (97 ≤ c.toNat ∧ c.toNat ≤ 122)
/-- at least one byte, all digits -/
def digsB (s : ByteArray) : Bool := decide (0 < s.size ∧ ∀ i (h : i < s.size), digB s[i] = true)

theorem digsB_true {s : ByteArray} (h0 : 0 < s.size) (h : ∀ i (h : i < s.size), digB s[i] = true) : digsB s = true := by
  simp [digsB, h0]; exact h
theorem digsB_bad {s : ByteArray} {i : Nat} (hi : i < s.size) (h : digB s[i] = false) : digsB s = false := by
  simp only [digsB, decide_eq_false_iff_not]
  intro ⟨_, h2⟩
  have := h2 i hi
  rw [h] at this; cases this
theorem digsB_nil {s : ByteArray} (h : s.size = 0) : digsB s = false := by
  simp [digsB, h]

set_option maxHeartbeats 400000 in
theorem spec_IsDigits (s : ByteArray) (w : World) (hs : s.size ≤ maxLen) :
    Calls Try.prog 9 #[.string s] w fun e w' => e = .returned (.bool (digsB s)) ∧ w = w' := by
  unfold maxLen at hs
  go_enter Try.func9, Try.ntmps9
  go_wp2
  go_loop [3] (fun i => ∃ k : Nat, k ≤ s.size ∧ i = .int .i64 k ∧ Hid (∀ j (h : j < s.size), j < k → digB s[j] = true)) (fun i => s.size - (intOf i).toNat)
  case atStart => exact ⟨0, Nat.zero_le _, rfl, fun j _ h => absurd h (Nat.not_lt_zero _)⟩
  case round =>
    obtain ⟨k, hk, rfl, H⟩ := hrel
    by_cases hlt : k < s.size
    · by_cases h1 : (s[k].toNat : Int) < 48
      · have HB : Hid (digsB s = false) := digsB_bad hlt (by simp [digB]; omega)
        go_wp2
        go_ret
        exact ⟨ret_bool HB.out.symm, rfl⟩
      · by_cases h2 : 57 < (s[k].toNat : Int)
        · have HB : Hid (digsB s = false) := digsB_bad hlt (by simp [digB]; omega)
          go_wp2
          go_ret
          exact ⟨ret_bool HB.out.symm, rfl⟩
        · have HN : Hid (∀ j (h : j < s.size), j < k + 1 → digB s[j] = true) := fun j hj hjk => by
            by_cases e : j = k
            · subst e; simp [digB]; omega
            · exact H.out j hj (by omega)
          clear H
          go_wp2
          go_round
          case rel => exact ⟨k + 1, by omega, by go_num, HN⟩
          case measure => simp [intOf]; omega
    · have hk' : k = s.size := by omega
      by_cases h0 : 0 < s.size
      · have HB : Hid (digsB s = true) := digsB_true h0 fun i hi => H.out i hi (by omega)
        clear H hk'
        go_wp2
        go_ret
        exact ⟨ret_bool HB.out.symm, rfl⟩
      · have HB : Hid (digsB s = false) := digsB_nil (by omega)
        clear H hk'
        go_wp2
        go_ret
        exact ⟨ret_bool HB.out.symm, rfl⟩

/-! ### the program's, rune by rune -/
theorem isDigit_yes (r : Int) (w : World) (h1 : 48 ≤ r) (h2 : r ≤ 57) :
    Calls Try.prog 26 #[.int .i32 r] w fun e w' => e = .returned (.bool true) ∧ w = w' := by
  go_enter Try.func26, Try.ntmps26
  go_wp2
  go_ret
  exact ⟨rfl, rfl⟩
theorem isDigit_no (r : Int) (w : World) (h : r < 48 ∨ 57 < r) :
    Calls Try.prog 26 #[.int .i32 r] w fun e w' => e = .returned (.bool false) ∧ w = w' := by
  rcases h with h | h
  · go_enter Try.func26, Try.ntmps26
    go_wp2
    go_ret
    exact ⟨rfl, rfl⟩
  · have h' : 48 ≤ r := by omega
    go_enter Try.func26, Try.ntmps26
    go_wp2
    go_ret
    exact ⟨ret_bool (a := decide (r ≤ 57)) (by simp; omega), rfl⟩

set_option maxHeartbeats 400000 in
theorem impl_IsDigits (s : ByteArray) (w : World) (hs : s.size ≤ maxLen) :
    Calls Try.prog 10 #[.string s] w fun e w' => e = .returned (.bool (digsB s)) ∧ ∃ pos, w' = w.iter s pos := by
  unfold maxLen at hs
  go_enter Try.func10, Try.ntmps10
  go_wp2
  go_loopw [4] (fun _ w' => ∃ pos : Nat, w' = w.iter s pos ∧ pos ≤ s.size ∧ Hid (∀ j (h : j < s.size), j < pos → digB s[j] = true)) (fun _ w' => s.size - w'.iterPos w.heap.size)
  case atStart => exact ⟨0, rfl, Nat.zero_le _, fun j _ h => absurd h (Nat.not_lt_zero _)⟩
  case round =>
    obtain ⟨pos, rfl, hk, H⟩ := hrel
    by_cases hp : pos < s.size
    · by_cases ha : s[pos].toNat < 128
      · have hnx : ∀ ty, (Instr.next (.pointer (some ⟨w.heap.size, 0, none⟩)) true ty).run Try.prog (w.iter s pos) = _ := fun ty => run_next_ascii w s pos ty hp ha
        by_cases hd : 48 ≤ s[pos].toNat ∧ s[pos].toNat ≤ 57
        · have HN : Hid (∀ j (h : j < s.size), j < pos + 1 → digB s[j] = true) := fun j hj hjk => by
            by_cases e : j = pos
            · subst e; simp [digB]; omega
            · exact H.out j hj (by omega)
          clear H
          obtain ⟨hd1, hd2⟩ := hd
          go_wp2_with (go_at_call 26; refine (isDigit_yes _ _ (by omega) (by omega)).mono ?_; rintro e w' ⟨rfl, rfl⟩)
          go_roundw
          case rel => exact ⟨pos + 1, rfl, by omega, HN⟩
          case measure => simp; omega
        · have HB : Hid (digsB s = false) := digsB_bad hp (by simp [digB]; omega)
          go_wp2_with (go_at_call 26; refine (isDigit_no _ _ (by omega)).mono ?_; rintro e w' ⟨rfl, rfl⟩)
          go_ret
          exact ⟨ret_bool HB.out.symm, _, rfl⟩
      · have hnx : ∀ ty, (Instr.next (.pointer (some ⟨w.heap.size, 0, none⟩)) true ty).run Try.prog (w.iter s pos) = _ := fun ty => run_next_any w s pos ty hp
        have hr := (decode_high s pos hp (by omega)).1
        have HB : Hid (digsB s = false) := digsB_bad hp (by simp [digB]; omega)
        clear H
        go_wp2_with (go_at_call 26; refine (isDigit_no _ _ (by omega)).mono ?_; rintro e w' ⟨rfl, rfl⟩)
        go_ret
        exact ⟨ret_bool HB.out.symm, _, rfl⟩
    · have hnx : ∀ ty, (Instr.next (.pointer (some ⟨w.heap.size, 0, none⟩)) true ty).run Try.prog (w.iter s pos) = _ := fun ty => run_next_end w s pos ty hp
      by_cases h0 : 0 < s.size
      · have HB : Hid (digsB s = true) := digsB_true h0 fun i hi => H.out i hi (by omega)
        have he := nonempty_f h0
        clear H
        go_wp2
        go_ret
        exact ⟨ret_bool HB.out.symm, _, rfl⟩
      · have HB : Hid (digsB s = false) := digsB_nil (by omega)
        have he := nonempty_t (s := s) (by omega)
        clear H
        go_wp2
        go_ret
        exact ⟨ret_bool HB.out.symm, _, rfl⟩

theorem below_iter {B : Nat} {a w : World} (h : Below B a w) (hB : B ≤ w.heap.size) (s : ByteArray) (pos : Nat) : Below B a (w.iter s pos) := h.alloc hB _

set_option maxHeartbeats 400000 in
theorem FnExactIsDigits_walk (w : World) (s : ByteArray) (hs : s.size ≤ maxLen) :
    Calls Try.prog 3 #[.string s] w fun e w' => e = .returned (.bool true) ∧ Below w.heap.size w w' := by
  have hm := hs
  unfold maxLen at hm
  by_cases h : 1048576 < s.size
  · go_enter Try.func3, Try.ntmps3
    go_wp2
    go_ret
    exact ⟨rfl, Below.refl _ _⟩
  · go_enter Try.func3, Try.ntmps3
    go_wp2_with (first
      | (go_at_call 9; refine (spec_IsDigits s _ hs).mono ?_; rintro e w' ⟨rfl, rfl⟩)
      | (go_at_call 10; refine (impl_IsDigits s _ hs).mono ?_; rintro e w' ⟨rfl, pos, rfl⟩))
    go_ret
    exact ⟨rfl, below_iter (Below.refl _ _) (Nat.le_refl _) _ _⟩
end Go.Proofs.Ytpepbjmjgkgalaa
