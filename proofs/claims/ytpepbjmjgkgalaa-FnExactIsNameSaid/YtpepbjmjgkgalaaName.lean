/-
  What IsName answers, of the program and of the reference: walks (contracts) over their translation, and the law's walk.
-/
import Derived.Test.YtpepbjmjgkgalaaDig
namespace Go.Proofs.Ytpepbjmjgkgalaa
open Go.RowKit

/-- may the byte c stand at place i of a name? -/
def nmB (i : Nat) (c : UInt8) : Bool := lowB c || (decide (i ≠ 0) && digB c)
def nameB (s : ByteArray) : Bool := decide (1 ≤ s.size ∧ s.size ≤ 8 ∧ ∀ i (h : i < s.size), nmB i s[i] = true)
theorem nameB_true {s : ByteArray} (h0 : 1 ≤ s.size) (h8 : s.size ≤ 8) (h : ∀ i (h : i < s.size), nmB i s[i] = true) : nameB s = true := by
  simp [nameB, h0, h8]; exact h
theorem nameB_bad {s : ByteArray} {i : Nat} (hi : i < s.size) (h : nmB i s[i] = false) : nameB s = false := by
  simp only [nameB, decide_eq_false_iff_not]
  intro ⟨_, _, h2⟩
  have := h2 i hi
  rw [h] at this; cases this
theorem nameB_len {s : ByteArray} (h : s.size < 1 ∨ 8 < s.size) : nameB s = false := by
  simp only [nameB, decide_eq_false_iff_not]
  intro ⟨_, _, h2⟩
  omega
theorem nmB_low {i : Nat} {c : UInt8} (h1 : 97 ≤ c.toNat) (h2 : c.toNat ≤ 122) : nmB i c = true := by simp [nmB, lowB, h1, h2]
theorem nmB_dig {i : Nat} {c : UInt8} (h0 : i ≠ 0) (h1 : 48 ≤ c.toNat) (h2 : c.toNat ≤ 57) : nmB i c = true := by simp [nmB, digB, h0, h1, h2]
theorem nmB_no0 {c : UInt8} (h : c.toNat < 97 ∨ 122 < c.toNat) : nmB 0 c = false := by simp [nmB, lowB]; omega
theorem nmB_no {i : Nat} {c : UInt8} (h : c.toNat < 97 ∨ 122 < c.toNat) (h' : c.toNat < 48 ∨ 57 < c.toNat) : nmB i c = false := by simp [nmB, lowB, digB]; omega
theorem nm_next {s : ByteArray} {k : Nat} (H : ∀ j (h : j < s.size), j < k → nmB j s[j] = true) (hk : k < s.size) (h : nmB k s[k] = true) : ∀ j (h : j < s.size), j < k + 1 → nmB j s[j] = true := fun j hj hjk => by
  by_cases e : j = k
  · subst e; exact h
  · exact H j hj (by omega)

theorem l01In_any (n : Int) (w : World) (b : Bool) (h : Hid (b = decide (1 ≤ n ∧ n ≤ 8))) :
    Calls Try.prog 27 #[.int .i64 n, .int .i64 1, .int .i64 8] w fun e w' => e = .returned (.bool b) ∧ w = w' := by
  by_cases h1 : 1 ≤ n
  · go_enter Try.func27, Try.ntmps27
    go_wp2
    go_ret
    exact ⟨ret_bool (a := decide (n ≤ 8)) (by rw [h.out]; simp [h1]), rfl⟩
  · go_enter Try.func27, Try.ntmps27
    go_wp2
    go_ret
    exact ⟨ret_bool (a := false) (by rw [h.out]; simp; omega), rfl⟩

set_option maxHeartbeats 400000 in
theorem spec_IsName (s : ByteArray) (w : World) (hs : s.size ≤ maxLen) :
    Calls Try.prog 11 #[.string s] w fun e w' => e = .returned (.bool (nameB s)) ∧ w = w' := by
  unfold maxLen at hs
  go_enter Try.func11, Try.ntmps11
  go_wp2
  go_loop [3] (fun i => ∃ k : Nat, k ≤ s.size ∧ i = .int .i64 k ∧ Hid (∀ j (h : j < s.size), j < k → nmB j s[j] = true)) (fun i => s.size - (intOf i).toNat)
  case atStart => exact ⟨0, Nat.zero_le _, rfl, fun j _ h => absurd h (Nat.not_lt_zero _)⟩
  case round =>
    obtain ⟨k, hk, rfl, H⟩ := hrel
    by_cases hlt : k < s.size
    · by_cases hl : 97 ≤ (s[k].toNat : Int) ∧ (s[k].toNat : Int) ≤ 122
      · obtain ⟨h1, h2⟩ := hl
        have HN := nm_next H.out hlt (nmB_low (by omega) (by omega))
        have HN' : Hid (∀ j (h : j < s.size), j < k + 1 → nmB j s[j] = true) := HN
        clear H HN
        go_wp2
        go_round
        case rel => exact ⟨k + 1, by omega, by go_num, HN'⟩
        case measure => simp [intOf]; omega
      · by_cases h0 : k = 0
        · subst h0
          have HB : Hid (nameB s = false) := nameB_bad hlt (nmB_no0 (by omega))
          clear H
          by_cases h1 : (s[0].toNat : Int) < 97
          · clear hl
            go_wp2
            go_ret
            exact ⟨ret_bool HB.out.symm, rfl⟩
          · have h2 : decide ((s[0].toNat : Int) ≤ 122) = false := decide_eq_false (by omega)
            clear hl
            go_wp2
            go_ret
            exact ⟨ret_bool HB.out.symm, rfl⟩
        · have h0' : 0 < k := by omega
          by_cases hd : 48 ≤ (s[k].toNat : Int) ∧ (s[k].toNat : Int) ≤ 57
          · obtain ⟨h1, h2⟩ := hd
            have HN' : Hid (∀ j (h : j < s.size), j < k + 1 → nmB j s[j] = true) := nm_next H.out hlt (nmB_dig h0 (by omega) (by omega))
            have hlo : decide (97 ≤ (s[k].toNat : Int)) = false := decide_eq_false (by omega)
            have hz : ((k : Int) == 0) = false := by simp; omega
            clear H hl
            go_wp2
            go_round
            case rel => exact ⟨k + 1, by omega, by go_num, HN'⟩
            case measure => simp [intOf]; omega
          · have HB : Hid (nameB s = false) := nameB_bad hlt (nmB_no (by omega) (by omega))
            clear H
            by_cases h1 : (s[k].toNat : Int) < 48
            · clear hl hd
              go_wp2
              go_ret
              exact ⟨ret_bool HB.out.symm, rfl⟩
            · have h2 : 57 < (s[k].toNat : Int) := by omega
              by_cases h3 : (s[k].toNat : Int) < 97
              · clear hl hd
                go_wp2
                go_ret
                exact ⟨ret_bool HB.out.symm, rfl⟩
              · have h4 : decide ((s[k].toNat : Int) ≤ 122) = false := decide_eq_false (by omega)
                clear hl hd
                go_wp2
                go_ret
                exact ⟨ret_bool HB.out.symm, rfl⟩
    · have hk' : k = s.size := by omega
      have HB : Hid (nameB s = decide (1 ≤ (s.size : Int) ∧ (s.size : Int) ≤ 8)) := by
        by_cases h1 : 1 ≤ s.size ∧ s.size ≤ 8
        · refine (nameB_true h1.1 h1.2 fun i hi => H.out i hi (by omega)).trans ?_
          simp; omega
        · refine (nameB_len (by omega)).trans ?_
          simp; omega
      clear H hk'
      go_wp2_with (go_at_call 27; refine (l01In_any _ _ _ HB).mono ?_; rintro e w' ⟨rfl, rfl⟩)
      go_ret
      exact ⟨rfl, rfl⟩

theorem isLetter_yes (r : Int) (w : World) (h1 : 97 ≤ r) (h2 : r ≤ 122) :
    Calls Try.prog 28 #[.int .i32 r] w fun e w' => e = .returned (.bool true) ∧ w = w' := by
  go_enter Try.func28, Try.ntmps28
  go_wp2
  go_ret
  exact ⟨rfl, rfl⟩
theorem isLetter_no (r : Int) (w : World) (h : r < 97 ∨ 122 < r) :
    Calls Try.prog 28 #[.int .i32 r] w fun e w' => e = .returned (.bool false) ∧ w = w' := by
  rcases h with h | h
  · go_enter Try.func28, Try.ntmps28
    go_wp2
    go_ret
    exact ⟨rfl, rfl⟩
  · have h' : 97 ≤ r := by omega
    go_enter Try.func28, Try.ntmps28
    go_wp2
    go_ret
    exact ⟨ret_bool (a := decide (r ≤ 122)) (by simp; omega), rfl⟩

set_option maxHeartbeats 800000 in
theorem impl_IsName (s : ByteArray) (w : World) (hs : s.size ≤ maxLen) :
    Calls Try.prog 12 #[.string s] w fun e w' => e = .returned (.bool (nameB s)) ∧ Below w.heap.size w w' := by
  unfold maxLen at hs
  by_cases h0 : 0 < s.size
  · have he := nonempty_f h0
    by_cases h8 : 8 < s.size
    · have HB : Hid (nameB s = false) := nameB_len (by omega)
      go_enter Try.func12, Try.ntmps12
      go_wp2
      go_ret
      exact ⟨ret_bool HB.out.symm, Below.refl _ _⟩
    · go_enter Try.func12, Try.ntmps12
      go_wp2
      clear he
      go_loopw [3, 4] (fun _ _ w' => ∃ pos : Nat, w' = w.iter s pos ∧ pos ≤ s.size ∧ Hid (∀ j (h : j < s.size), j < pos → nmB j s[j] = true)) (fun _ _ w' => s.size - w'.iterPos w.heap.size)
      case atStart => exact ⟨0, rfl, Nat.zero_le _, fun j _ h => absurd h (Nat.not_lt_zero _)⟩
      case round =>
        obtain ⟨pos, rfl, hk, H⟩ := hrel
        by_cases hp : pos < s.size
        · by_cases ha : s[pos].toNat < 128
          · have hnx : ∀ ty, (Instr.next (.pointer (some ⟨w.heap.size, 0, none⟩)) true ty).run Try.prog (w.iter s pos) = _ := fun ty => run_next_ascii w s pos ty hp ha
            by_cases hl : 97 ≤ s[pos].toNat ∧ s[pos].toNat ≤ 122
            · obtain ⟨hd1, hd2⟩ := hl
              have HN : Hid (∀ j (h : j < s.size), j < pos + 1 → nmB j s[j] = true) := nm_next H.out hp (nmB_low hd1 hd2)
              clear H
              go_wp2_with (go_at_call 28; refine (isLetter_yes _ _ (by omega) (by omega)).mono ?_; rintro e w' ⟨rfl, rfl⟩)
              go_roundw
              case rel => exact ⟨pos + 1, rfl, by omega, HN⟩
              case measure => simp; omega
            · by_cases h00 : pos = 0
              · subst h00
                have HB : Hid (nameB s = false) := nameB_bad hp (nmB_no0 (by omega))
                clear H
                go_wp2_with (go_at_call 28; refine (isLetter_no _ _ (by omega)).mono ?_; rintro e w' ⟨rfl, rfl⟩)
                go_ret
                exact ⟨ret_bool HB.out.symm, below_iter (Below.refl _ _) (Nat.le_refl _) _ _⟩
              · have h01 : 0 < pos := by omega
                by_cases hd : 48 ≤ s[pos].toNat ∧ s[pos].toNat ≤ 57
                · obtain ⟨hd1, hd2⟩ := hd
                  have HN : Hid (∀ j (h : j < s.size), j < pos + 1 → nmB j s[j] = true) := nm_next H.out hp (nmB_dig h00 hd1 hd2)
                  clear H
                  go_wp2_with (first
                    | (go_at_call 28; refine (isLetter_no _ _ (by omega)).mono ?_; rintro e w' ⟨rfl, rfl⟩)
                    | (go_at_call 26; refine (isDigit_yes _ _ (by omega) (by omega)).mono ?_; rintro e w' ⟨rfl, rfl⟩))
                  go_roundw
                  case rel => exact ⟨pos + 1, rfl, by omega, HN⟩
                  case measure => simp; omega
                · have HB : Hid (nameB s = false) := nameB_bad hp (nmB_no (by omega) (by omega))
                  clear H
                  go_wp2_with (first
                    | (go_at_call 28; refine (isLetter_no _ _ (by omega)).mono ?_; rintro e w' ⟨rfl, rfl⟩)
                    | (go_at_call 26; refine (isDigit_no _ _ (by omega)).mono ?_; rintro e w' ⟨rfl, rfl⟩))
                  go_ret
                  exact ⟨ret_bool HB.out.symm, below_iter (Below.refl _ _) (Nat.le_refl _) _ _⟩
          · have hnx : ∀ ty, (Instr.next (.pointer (some ⟨w.heap.size, 0, none⟩)) true ty).run Try.prog (w.iter s pos) = _ := fun ty => run_next_any w s pos ty hp
            have hr := (decode_high s pos hp (by omega)).1
            have HB : Hid (nameB s = false) := nameB_bad hp (nmB_no (by omega) (by omega))
            clear H
            by_cases h00 : pos = 0
            · subst h00
              go_wp2_with (go_at_call 28; refine (isLetter_no _ _ (by omega)).mono ?_; rintro e w' ⟨rfl, rfl⟩)
              go_ret
              exact ⟨ret_bool HB.out.symm, below_iter (Below.refl _ _) (Nat.le_refl _) _ _⟩
            · have h01 : 0 < pos := by omega
              go_wp2_with (first
                | (go_at_call 28; refine (isLetter_no _ _ (by omega)).mono ?_; rintro e w' ⟨rfl, rfl⟩)
                | (go_at_call 26; refine (isDigit_no _ _ (by omega)).mono ?_; rintro e w' ⟨rfl, rfl⟩))
              go_ret
              exact ⟨ret_bool HB.out.symm, below_iter (Below.refl _ _) (Nat.le_refl _) _ _⟩
        · have hnx : ∀ ty, (Instr.next (.pointer (some ⟨w.heap.size, 0, none⟩)) true ty).run Try.prog (w.iter s pos) = _ := fun ty => run_next_end w s pos ty hp
          have HB : Hid (nameB s = true) := nameB_true (by omega) (by omega) fun i hi => H.out i hi (by omega)
          clear H
          go_wp2
          go_ret
          exact ⟨ret_bool HB.out.symm, below_iter (Below.refl _ _) (Nat.le_refl _) _ _⟩
  · have he := nonempty_t (s := s) (by omega)
    have HB : Hid (nameB s = false) := nameB_len (by omega)
    go_enter Try.func12, Try.ntmps12
    go_wp2
    go_ret
    exact ⟨ret_bool HB.out.symm, Below.refl _ _⟩

set_option maxHeartbeats 400000 in
theorem FnExactIsName_walk (w : World) (s : ByteArray) (hs : s.size ≤ maxLen) :
    Calls Try.prog 4 #[.string s] w fun e w' => e = .returned (.bool true) ∧ Below w.heap.size w w' := by
  have hm := hs
  unfold maxLen at hm
  by_cases h : 1048576 < s.size
  · go_enter Try.func4, Try.ntmps4
    go_wp2
    go_ret
    exact ⟨rfl, Below.refl _ _⟩
  · go_enter Try.func4, Try.ntmps4
    go_wp2_with (first
      | (go_at_call 11; refine (spec_IsName s _ hs).mono ?_; rintro e w' ⟨rfl, rfl⟩)
      | (go_at_call 12; refine (impl_IsName s _ hs).mono ?_; rintro e w' ⟨rfl, hb⟩))
    go_ret
    exact ⟨rfl, hb⟩
end Go.Proofs.Ytpepbjmjgkgalaa
