/-
  A natural number's text, in groups of nine digits. Of no program.
-/
import Derived.Test.YtcainjgcfbgddaaDigP
import Derived.Test.YtcainjgcfbgddaaNatP
namespace Go.Proofs.Ytcainjgcfbgddaa
open Go.RowKit
set_option linter.unusedVariables false

/-- the digit at place i -/
def dg (s : ByteArray) (i : Nat) : Int := if h : i < s.size then (s[i].toNat : Int) - 48 else 0
/-- the number that k digits from place a on tell -/
def numL (s : ByteArray) (a : Nat) : Nat → Int
  | 0 => 0
  | k + 1 => numL s a k * 10 + dg s (a + k)
theorem dg_in {s : ByteArray} {i : Nat} (h : i < s.size) : dg s i = (s[i].toNat : Int) - 48 := dif_pos h
theorem dg_b {s : ByteArray} (hd : ∀ i (h : i < s.size), digB s[i] = true) (i : Nat) : 0 ≤ dg s i ∧ dg s i ≤ 9 := by
  unfold dg
  split
  · rename_i h
    have := hd i h
    simp only [digB, decide_eq_true_eq] at this
    omega
  · omega
theorem numL_b {s : ByteArray} (hd : ∀ i (h : i < s.size), digB s[i] = true) (a k : Nat) : 0 ≤ numL s a k ∧ numL s a k < 10 ^ k := by
  induction k with
  | zero => simp [numL]
  | succ k ih =>
    have := dg_b hd (a + k)
    rw [numL, Int.pow_succ]
    omega
theorem numL_9 {s : ByteArray} (hd : ∀ i (h : i < s.size), digB s[i] = true) (a k : Nat) (hk : k ≤ 9) : 0 ≤ numL s a k ∧ numL s a k ≤ 999999999 := by
  obtain ⟨h1, h2⟩ := numL_b hd a k
  have h3 : (10 : Int) ^ k ≤ 10 ^ 9 := by
    have := Nat.pow_le_pow_right (n := 10) (by omega) hk
    exact_mod_cast this
  omega
/-- the groups of the first e digits, the last group first -/
def parts (s : ByteArray) (e : Nat) : List Int := if h : e = 0 then [] else numL s (e - 9) (e - (e - 9)) :: parts s (e - 9)
  termination_by e
  decreasing_by omega
theorem parts_zero (s : ByteArray) : parts s 0 = [] := by rw [parts]; simp
theorem parts_pos (s : ByteArray) {e : Nat} (h : 0 < e) : parts s e = numL s (e - 9) (e - (e - 9)) :: parts s (e - 9) := by
  rw [parts, dif_neg (by omega)]
theorem parts_len (s : ByteArray) (e k : Nat) (h : e ≤ 9 * k) : (parts s e).length ≤ k := by
  induction k generalizing e with
  | zero => have : e = 0 := by omega
            subst this; rw [parts_zero]; simp
  | succ k ih =>
    by_cases he : e = 0
    · subst he; rw [parts_zero]; simp
    · rw [parts_pos s (by omega), List.length_cons]
      have := ih (e - 9) (by omega)
      omega
/-- is the text a natural number's? -/
def parseB (s : ByteArray) : Bool := digsB s && decide (s.size ≤ 540) && !(decide (1 < s.size) && (dg s 0 == 0))
def parseL (s : ByteArray) : List Int := if parseB s then trim (parts s s.size) else []
theorem parseL_len (s : ByteArray) : (parseL s).length ≤ 1048576 := by
  rw [parseL]
  split
  · rename_i h
    rw [parseB, Bool.and_eq_true, Bool.and_eq_true, decide_eq_true_eq] at h
    obtain ⟨k, h1, h2, _⟩ := trim_prefix (parts s s.size)
    have := parts_len s s.size 60 (by omega)
    rw [h2, List.length_take]; omega
  · simp
theorem digs_all {s : ByteArray} (h : digsB s = true) : 0 < s.size ∧ ∀ i (h : i < s.size), digB s[i] = true := by
  simp only [digsB, decide_eq_true_eq] at h
  exact h
/-- digits of a cut -/
theorem dg_cut (s : ByteArray) (a b i : Nat) (hb : b ≤ s.size) (hi : a + i < b) : dg (s.extract a b) i = dg s (a + i) := by
  have h1 : i < (s.extract a b).size := by rw [ByteArray.size_extract]; omega
  rw [dg_in h1, dg_in (show a + i < s.size by omega), ByteArray.getElem_extract]
theorem numL_cut (s : ByteArray) (a b k : Nat) (hb : b ≤ s.size) (hk : a + k ≤ b) : numL (s.extract a b) 0 k = numL s a k := by
  induction k with
  | zero => rfl
  | succ k ih => rw [numL, numL, ih (by omega), Nat.zero_add, dg_cut s a b k hb (by omega)]
end Go.Proofs.Ytcainjgcfbgddaa
