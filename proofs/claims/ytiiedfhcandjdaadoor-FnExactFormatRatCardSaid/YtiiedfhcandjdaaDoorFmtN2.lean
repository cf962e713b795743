/-
  ParseNat of FormatNat: plain mathematics. Of no program.
-/
import Derived.Test.YtiiedfhcandjdaaDoorFmtN
namespace Go.Proofs.YtiiedfhcandjdaaDoor
open Go.RowKit
set_option linter.unusedVariables false

theorem dec_lenP (m : Nat) : ∀ k, k < 10 ^ (m + 1) → (Lib.decDigits k).length ≤ m + 1 := by
  induction m with
  | zero => intro k h; rw [dec_one (by simpa using h)]; simp
  | succ m ih =>
    intro k h
    by_cases h9 : 9 < k
    · rw [dec_more h9, List.length_append, List.length_singleton]
      have := ih (k / 10) (by rw [Nat.pow_succ] at h; omega)
      omega
    · rw [dec_one (by omega)]; simp
theorem dec_len9 {d : Int} (h : 0 ≤ d ∧ d ≤ 999999999) : (Lib.decDigits d.toNat).length ≤ 9 := dec_lenP 8 _ (by omega)
theorem fmtD_len {a : List Int} (hl : Limbs a) : (fmtD a).length ≤ 9 * a.length ∧ (a ≠ [] → 0 < (fmtD a).length) := by
  induction a with
  | nil => simp [fmtD]
  | cons d r ih =>
    have h9 := dec_len9 hl.cons.1
    have hp := dec_pos d.toNat
    cases r with
    | nil => rw [fmtD]; simp only [List.length_cons, List.length_nil]; exact ⟨by omega, fun _ => hp⟩
    | cons e r =>
      have hi := ih hl.cons.2
      rw [fmtD]
      simp only [List.length_append, List.length_replicate, List.length_cons] at hi ⊢
      exact ⟨by omega, fun _ => by omega⟩
theorem fmtB_list {a : List Int} (hb : natB a = true) (h0 : a ≠ []) : (fmtB a).data.toList = fmtD a := by
  rw [fmtB, if_pos hb, if_neg h0, joinB, fmt_eq ((natB_iff a).1 hb).1.1 h0]
theorem fmtB_size {a : List Int} (hb : natB a = true) : (fmtB a).size ≤ 540 := by
  by_cases h0 : a = []
  · subst h0; rw [fmtB, hb]; show 1 ≤ 540; omega
  · obtain ⟨hc, hl⟩ := (natB_iff a).1 hb
    have := (fmtD_len hc.1).1
    have e : (fmtB a).size = (fmtD a).length := by rw [← fmtB_list hb h0]; simp
    omega
end Go.Proofs.YtiiedfhcandjdaaDoor
