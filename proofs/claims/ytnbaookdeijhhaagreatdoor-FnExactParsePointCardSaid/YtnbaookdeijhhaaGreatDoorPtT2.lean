/-
  Points as text: what is parsed of a point; said of bytes.
-/
import Derived.Test.YtnbaookdeijhhaaGreatDoorPtT
import Derived.Test.YtnbaookdeijhhaaGreatDoorRatT
import Derived.Test.YtnbaookdeijhhaaGreatDoorRatU
import Derived.Test.YtnbaookdeijhhaaGreatDoorPtM
namespace Go.Proofs.YtnbaookdeijhhaaGreatDoor
open Go.RowKit
set_option linter.unusedVariables false

theorem cntC_digs {s : ByteArray} (h : digsB s = true) : cntC s = 0 := by
  obtain ⟨_, hd⟩ := digs_all h
  refine cnt_zeroC fun i hi he => ?_
  have := hd i hi
  rw [he] at this
  exact absurd this (by decide)
theorem cntC_parse {s : ByteArray} (h : parseB s = true) : cntC s = 0 := by
  unfold parseB at h
  simp only [Bool.and_eq_true] at h
  exact cntC_digs h.1.1
theorem cntC_fmtB {xs : List Int} (h : natB xs = true) : cntC (fmtB xs) = 0 := cntC_parse (parse_fmt h).1
theorem cntC_fmtZ {s : Bool} {xs : List Int} (h : bigB s xs = true) : cntC (fmtZ s xs) = 0 := by
  have hb := cntC_fmtB (bigB_nat h)
  cases s
  · rw [fmtZ_pos h]; exact hb
  · rw [fmtZ_neg h, cnt_appC, hb]; decide
theorem cntC_fmtR (s : Bool) (xs ds : List Int) : cntC (fmtR s xs ds) = 0 := by
  by_cases h : ratB s xs ds = true
  · by_cases h1 : ds = [1]
    · rw [fmtR_one h h1, cntC_fmtZ (ratB_big h)]
    · rw [fmtR_two h h1, cnt_appC, cnt_appC, cntC_fmtZ (ratB_big h), cntC_fmtB (ratB_den h)]; decide
  · have h : ratB s xs ds = false := by simpa using h
    rw [fmtR_no h]; decide
theorem cntC_okRB {s : ByteArray} (h : okRB s = true) : cntC s = 0 := by
  unfold okRB at h
  simp only [Bool.and_eq_true, decide_eq_true_eq] at h
  rw [← h.2]; exact cntC_fmtR _ _ _
def okP (s : ByteArray) : Bool := okRB (headBC s) && okRB (tailBC s)
def parP (s : ByteArray) : PQ := if okP s then (parR (headBC s), parR (tailBC s)) else (noR, noR)
theorem okP_tail {s : ByteArray} (h : tailBC s = ⟨#[]⟩ ∨ 0 < cntC (tailBC s)) : okP s = false := by
  have : okRB (tailBC s) = false := by
    by_cases hp : okRB (tailBC s) = true
    · rcases h with h | h
      · rw [h, okRB_empty] at hp; cases hp
      · have := cntC_okRB hp; omega
    · simpa using hp
  rw [okP, this]; simp
theorem parR_fit (s : ByteArray) : QFit (parR s) := by
  obtain ⟨h1, h2⟩ := parR_len s
  refine ⟨h1, h2, ?_⟩
  unfold parR; split
  · exact ⟨wfL_of (limbs_Z _), wfL_of (limbs_L _)⟩
  · exact noR_fit.2.2
theorem parP_fit (s : ByteArray) : PFit (parP s) := by
  unfold parP; split
  · exact ⟨parR_fit _, parR_fit _⟩
  · exact ⟨noR_fit, noR_fit⟩
def fmtP (P : PQ) : ByteArray := if ratQ P.1 && ratQ P.2 then (fmtR P.1.1.1 P.1.1.2 P.1.2 ++ ⟨#[44]⟩) ++ fmtR P.2.1.1 P.2.1.2 P.2.2 else ⟨#[]⟩
theorem fmtP_no {P : PQ} (h : (ratQ P.1 && ratQ P.2) = false) : fmtP P = ⟨#[]⟩ := by rw [fmtP, h]; rfl
theorem fmtP_ok {P : PQ} (h : (ratQ P.1 && ratQ P.2) = true) : fmtP P = (fmtR P.1.1.1 P.1.1.2 P.1.2 ++ ⟨#[44]⟩) ++ fmtR P.2.1.1 P.2.1.2 P.2.2 := by rw [fmtP, h]; rfl
end Go.Proofs.YtnbaookdeijhhaaGreatDoor
