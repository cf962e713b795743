/-
  Names: plain, and what IsName answers, of the program.
-/
import Derived.Test.YtpepbjmjgkgalaaDoorDigI
namespace Go.Proofs.YtpepbjmjgkgalaaDoor
open Go.RowKit
set_option linter.unusedVariables false



/-- may the byte c stand at place i of a name? -/
def nmB (i : Nat) (c : UInt8) : Bool := lowB c || (decide (i ≠ 0) && digB c)

def nameB (s : ByteArray) : Bool := decide (1 ≤ s.size ∧ s.size ≤ 8 ∧ ∀ i (h : i < s.size), nmB i s[i] = true)

theorem nameB_true {s : ByteArray} (h0 : 1 ≤ s.size) (h8 : s.size ≤ 8) (h : ∀ i (h : i < s.size), nmB i s[i] = true) : nameB s = true := by
  simp [nameB, h0, h8]; exact h

theorem nameB_bad {s : ByteArray} {i : Nat} (hi : i < s.size) (h : nmB i s[i] = false) : nameB s = false := by
  simp only [nameB, decide_eq_false_iff_not]
  intro ⟨_, _, h2⟩
  have := h2 i hi
  rw [h] at this; cases this

theorem nameB_len {s : ByteArray} (h : s.size < 1 ∨ 8 < s.size) : nameB s = false := by
  simp only [nameB, decide_eq_false_iff_not]
  intro ⟨_, _, h2⟩
  omega

theorem nmB_low {i : Nat} {c : UInt8} (h1 : 97 ≤ c.toNat) (h2 : c.toNat ≤ 122) : nmB i c = true := by simp [nmB, lowB, h1, h2]

theorem nmB_dig {i : Nat} {c : UInt8} (h0 : i ≠ 0) (h1 : 48 ≤ c.toNat) (h2 : c.toNat ≤ 57) : nmB i c = true := by simp [nmB, digB, h0, h1, h2]

theorem nmB_no0 {c : UInt8} (h : c.toNat < 97 ∨ 122 < c.toNat) : nmB 0 c = false := by simp [nmB, lowB]; omega

theorem nmB_no {i : Nat} {c : UInt8} (h : c.toNat < 97 ∨ 122 < c.toNat) (h' : c.toNat < 48 ∨ 57 < c.toNat) : nmB i c = false := by simp [nmB, lowB, digB]; omega

theorem nm_next {s : ByteArray} {k : Nat} (H : ∀ j (h : j < s.size), j < k → nmB j s[j] = true) (hk : k < s.size) (h : nmB k s[k] = true) : ∀ j (h : j < s.size), j < k + 1 → nmB j s[j] = true := fun j hj hjk => by
  by_cases e : j = k
  · subst e; exact h
  · exact H j hj (by omega)

theorem isLetter_yes (r : Int) (w : World) (h1 : 97 ≤ r) (h2 : r ≤ 122) :
    Calls Tryd.prog 24 #[.int .i32 r] w fun e w' => e = .returned (.bool true) ∧ w = w' := by
  go_enter Tryd.func24, Tryd.ntmps24
  go_wp2
  go_ret
  exact ⟨rfl, rfl⟩

theorem isLetter_no (r : Int) (w : World) (h : r < 97 ∨ 122 < r) :
    Calls Tryd.prog 24 #[.int .i32 r] w fun e w' => e = .returned (.bool false) ∧ w = w' := by
  rcases h with h | h
  · go_enter Tryd.func24, Tryd.ntmps24
    go_wp2
    go_ret
    exact ⟨rfl, rfl⟩
  · have h' : 97 ≤ r := by omega
    go_enter Tryd.func24, Tryd.ntmps24
    go_wp2
    go_ret
    exact ⟨ret_bool (a := decide (r ≤ 122)) (by simp; omega), rfl⟩

set_option maxHeartbeats 800000 in
theorem impl_IsName (s : ByteArray) (w : World) (hs : s.size ≤ maxLen) :
    Calls Tryd.prog 12 #[.string s] w fun e w' => e = .returned (.bool (nameB s)) ∧ Below w.heap.size w w' := by
  unfold maxLen at hs
  by_cases h0 : 0 < s.size
  · have he := nonempty_f h0
    by_cases h8 : 8 < s.size
    · have HB : Hid (nameB s = false) := nameB_len (by omega)
      go_enter Tryd.func12, Tryd.ntmps12
      go_wp2
      go_ret
      exact ⟨ret_bool HB.out.symm, Below.refl _ _⟩
    · go_enter Tryd.func12, Tryd.ntmps12
      go_wp2
      clear he
      go_loopw [3, 4] (fun _ _ w' => ∃ pos : Nat, w' = w.iter s pos ∧ pos ≤ s.size ∧ Hid (∀ j (h : j < s.size), j < pos → nmB j s[j] = true)) (fun _ _ w' => s.size - w'.iterPos w.heap.size)
      case atStart => exact ⟨0, rfl, Nat.zero_le _, fun j _ h => absurd h (Nat.not_lt_zero _)⟩
      case round =>
        obtain ⟨pos, rfl, hk, H⟩ := hrel
        by_cases hp : pos < s.size
        · by_cases ha : s[pos].toNat < 128
          · have hnx : ∀ ty, (Instr.next (.pointer (some ⟨w.heap.size, 0, none⟩)) true ty).run Tryd.prog (w.iter s pos) = _ := fun ty => run_next_ascii w s pos ty hp ha
            by_cases hl : 97 ≤ s[pos].toNat ∧ s[pos].toNat ≤ 122
            · obtain ⟨hd1, hd2⟩ := hl
              have HN : Hid (∀ j (h : j < s.size), j < pos + 1 → nmB j s[j] = true) := nm_next H.out hp (nmB_low hd1 hd2)
              clear H
              go_wp2_with (go_at_call 24; refine (isLetter_yes _ _ (by omega) (by omega)).mono ?_; rintro e w' ⟨rfl, rfl⟩)
              go_roundw
              case rel => exact ⟨pos + 1, rfl, by omega, HN⟩
              case measure => simp; omega
            · by_cases h00 : pos = 0
              · subst h00
                have HB : Hid (nameB s = false) := nameB_bad hp (nmB_no0 (by omega))
                clear H
                go_wp2_with (go_at_call 24; refine (isLetter_no _ _ (by omega)).mono ?_; rintro e w' ⟨rfl, rfl⟩)
                go_ret
                exact ⟨ret_bool HB.out.symm, below_iter (Below.refl _ _) (Nat.le_refl _) _ _⟩
              · have h01 : 0 < pos := by omega
                by_cases hd : 48 ≤ s[pos].toNat ∧ s[pos].toNat ≤ 57
                · obtain ⟨hd1, hd2⟩ := hd
                  have HN : Hid (∀ j (h : j < s.size), j < pos + 1 → nmB j s[j] = true) := nm_next H.out hp (nmB_dig h00 hd1 hd2)
                  clear H
                  go_wp2_with (first
                    | (go_at_call 24; refine (isLetter_no _ _ (by omega)).mono ?_; rintro e w' ⟨rfl, rfl⟩)
                    | (go_at_call 25; refine (isDigit_yes _ _ (by omega) (by omega)).mono ?_; rintro e w' ⟨rfl, rfl⟩))
                  go_roundw
                  case rel => exact ⟨pos + 1, rfl, by omega, HN⟩
                  case measure => simp; omega
                · have HB : Hid (nameB s = false) := nameB_bad hp (nmB_no (by omega) (by omega))
                  clear H
                  go_wp2_with (first
                    | (go_at_call 24; refine (isLetter_no _ _ (by omega)).mono ?_; rintro e w' ⟨rfl, rfl⟩)
                    | (go_at_call 25; refine (isDigit_no _ _ (by omega)).mono ?_; rintro e w' ⟨rfl, rfl⟩))
                  go_ret
                  exact ⟨ret_bool HB.out.symm, below_iter (Below.refl _ _) (Nat.le_refl _) _ _⟩
          · have hnx : ∀ ty, (Instr.next (.pointer (some ⟨w.heap.size, 0, none⟩)) true ty).run Tryd.prog (w.iter s pos) = _ := fun ty => run_next_any w s pos ty hp
            have hr := (decode_high s pos hp (by omega)).1
            have HB : Hid (nameB s = false) := nameB_bad hp (nmB_no (by omega) (by omega))
            clear H
            by_cases h00 : pos = 0
            · subst h00
              go_wp2_with (go_at_call 24; refine (isLetter_no _ _ (by omega)).mono ?_; rintro e w' ⟨rfl, rfl⟩)
              go_ret
              exact ⟨ret_bool HB.out.symm, below_iter (Below.refl _ _) (Nat.le_refl _) _ _⟩
            · have h01 : 0 < pos := by omega
              go_wp2_with (first
                | (go_at_call 24; refine (isLetter_no _ _ (by omega)).mono ?_; rintro e w' ⟨rfl, rfl⟩)
                | (go_at_call 25; refine (isDigit_no _ _ (by omega)).mono ?_; rintro e w' ⟨rfl, rfl⟩))
              go_ret
              exact ⟨ret_bool HB.out.symm, below_iter (Below.refl _ _) (Nat.le_refl _) _ _⟩
        · have hnx : ∀ ty, (Instr.next (.pointer (some ⟨w.heap.size, 0, none⟩)) true ty).run Tryd.prog (w.iter s pos) = _ := fun ty => run_next_end w s pos ty hp
          have HB : Hid (nameB s = true) := nameB_true (by omega) (by omega) fun i hi => H.out i hi (by omega)
          clear H
          go_wp2
          go_ret
          exact ⟨ret_bool HB.out.symm, below_iter (Below.refl _ _) (Nat.le_refl _) _ _⟩
  · have he := nonempty_t (s := s) (by omega)
    have HB : Hid (nameB s = false) := nameB_len (by omega)
    go_enter Tryd.func12, Tryd.ntmps12
    go_wp2
    go_ret
    exact ⟨ret_bool HB.out.symm, Below.refl _ _⟩
end Go.Proofs.YtpepbjmjgkgalaaDoor
