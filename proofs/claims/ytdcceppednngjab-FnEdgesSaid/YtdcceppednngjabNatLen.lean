/-
  How many limbs the answers have. Of no program.
-/
import Derived.Test.YtdcceppednngjabPB
namespace Go.Proofs.Ytdcceppednngjab
open Go.RowKit
set_option linter.unusedVariables false

theorem capL_len (n : Nat) : (capL n).length ≤ 1048576 := by
  rw [capL]
  split
  · omega
  · simp
theorem limbs_len60 {n : Nat} (h : n < 1000000000 ^ 60) : (limbs n).length ≤ 1048576 := by
  have := limbs_len.2 h
  omega
theorem natV_lt60' {l : List Int} (h : natB l = true) : natV l < 1000000000 ^ 60 := by
  obtain ⟨hc, hl⟩ := (natB_iff l).1 h
  have e := limbs_natV h
  exact limbs_len.1 (by rw [e]; exact hl)
theorem mulL_len (a b : List Int) : (mulL a b).length ≤ 1048576 := by
  rw [mulL]; split
  · exact capL_len _
  · simp
theorem gcdL_len (a b : List Int) : (gcdL a b).length ≤ 1048576 := by
  rw [gcdL]; split
  · rename_i h
    rw [Bool.and_eq_true] at h
    have h0 := natV_lt60' h.1
    have h1 := natV_lt60' h.2
    rcases Nat.eq_zero_or_pos (natV a) with hz | hp
    · rw [hz, Nat.gcd_zero_left]; exact limbs_len60 h1
    · exact limbs_len60 (Nat.lt_of_le_of_lt (Nat.gcd_le_left _ hp) h0)
  · simp
end Go.Proofs.Ytdcceppednngjab
