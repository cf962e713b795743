/-
  Big integers as text: what is parsed, said of bytes.
-/
import Derived.Test.YtnbaookdeijhhaaGreatDoorPB
import Derived.Test.YtnbaookdeijhhaaGreatDoorPA
namespace Go.Proofs.YtnbaookdeijhhaaGreatDoor
open Go.RowKit
set_option linter.unusedVariables false

def minusB : ByteArray := ⟨#[45]⟩
def signB (s : ByteArray) : Bool := if h : 0 < s.size then s[0] == 45 else false
def restB (s : ByteArray) : ByteArray := if signB s then s.extract 1 s.size else s
def parseZB (s : ByteArray) : Bool := parseB (restB s) && !(signB s && (parseL (restB s)).isEmpty)
def parseZ (s : ByteArray) : Bool × List Int := if parseZB s then (signB s, parseL (restB s)) else noZ
theorem parseZ_len (s : ByteArray) : (parseZ s).2.length ≤ 1048576 := by
  unfold parseZ; split
  · exact parseL_len _
  · simp [noZ]
theorem signB_pos {s : ByteArray} (h : signB s = true) : 0 < s.size := by
  unfold signB at h; split at h
  · assumption
  · cases h
theorem restB_size (s : ByteArray) : (restB s).size ≤ s.size := by
  unfold restB; split
  · rw [ByteArray.size_extract]; omega
  · exact Nat.le_refl _
theorem cut_minus {s : ByteArray} (h : 0 < s.size) : ((s.extract 0 1).toList == minusB.toList) = signB s := by
  rw [signB, dif_pos h]
  have hs : (s.extract 0 1).size = 1 := by rw [ByteArray.size_extract]; omega
  have h0 : (s.extract 0 1)[0]'(by omega) = s[0] := by rw [ByteArray.getElem_extract]
  by_cases he : s[0] = 45
  · have : s.extract 0 1 = minusB := by
      apply ByteArray.ext_getElem
      · rw [hs]; rfl
      · intro i h1 h2
        obtain rfl : i = 0 := by omega
        rw [h0, he]; rfl
    rw [str_eq this, he]; rfl
  · have hne : s.extract 0 1 ≠ minusB := fun e => by
      apply he
      rw [← h0]
      have : ∀ (t : ByteArray) (ht : t = minusB) (h : 0 < t.size), t[0] = 45 := fun t ht h => by subst ht; rfl
      exact this _ e _
    have e1 : (s[0] == 45) = false := by simpa using he
    rw [e1]
    exact str_ne hne
theorem parts_limbs {s : ByteArray} (hd : ∀ i (h : i < s.size), digB s[i] = true) (e : Nat) : Limbs (parts s e) := by
  induction e using Nat.strongRecOn with
  | _ e ih =>
    by_cases h : e = 0
    · subst h; rw [parts_zero]; exact Limbs.nil
    · rw [parts_pos s (by omega)]
      exact Limbs.mk (numL_9 hd _ _ (by omega)) (ih _ (by omega))
theorem natB_parse {s : ByteArray} (h : parseB s = true) : natB (parseL s) = true := by
  have h2 := h
  unfold parseB at h2
  simp only [Bool.and_eq_true, decide_eq_true_eq] at h2
  obtain ⟨h0, hd⟩ := digs_all h2.1.1
  rw [parseL, h]
  obtain ⟨k, hk, he, _⟩ := trim_prefix (parts s s.size)
  have hl := parts_len s s.size 60 (by omega)
  refine (natB_iff _).2 ⟨trim_canon (parts_limbs hd _), ?_⟩
  show (trim (parts s s.size)).length ≤ 60
  rw [he, List.length_take]; omega
theorem parseZ_big {s : ByteArray} (h : parseB (restB s) = true) : bigB (signB s) (parseL (restB s)) = parseZB s := by
  rw [bigB, parseZB, natB_parse h, h]
end Go.Proofs.YtnbaookdeijhhaaGreatDoor
