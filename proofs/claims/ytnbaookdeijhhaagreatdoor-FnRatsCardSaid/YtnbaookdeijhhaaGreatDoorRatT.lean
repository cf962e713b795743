/-
  Fractions as text: where a text is cut, and what is parsed; said of bytes.
-/
import Derived.Test.YtnbaookdeijhhaaGreatDoorRatS
import Derived.Test.YtnbaookdeijhhaaGreatDoorBigQ
import Derived.Test.YtnbaookdeijhhaaGreatDoorSplitP
import Derived.Test.YtnbaookdeijhhaaGreatDoorFA
import Derived.Lib.CutLaws
namespace Go.Proofs.YtnbaookdeijhhaaGreatDoor
open Go.RowKit
set_option linter.unusedVariables false

def sl : ByteArray := ⟨#[47]⟩
/-- how many bytes are slashes -/
def cnt (s : ByteArray) : Nat := s.data.toList.count 47
theorem cnt_app (a b : ByteArray) : cnt (a ++ b) = cnt a + cnt b := by simp [cnt]
theorem bl_at {s : ByteArray} {i : Nat} (h1 : i < s.data.toList.length) (h : i < s.size) : s.data.toList[i] = s[i] := by
  rw [Array.getElem_toList]; rfl
theorem cnt_zero {s : ByteArray} (h : ∀ i (h : i < s.size), s[i] ≠ 47) : cnt s = 0 := by
  refine List.count_eq_zero.2 fun hm => ?_
  obtain ⟨i, hi, he⟩ := List.getElem_of_mem hm
  have hi' : i < s.size := by rw [ba_size] at hi; exact hi
  exact h i hi' ((bl_at hi hi').symm.trans he)
theorem cnt_pos {s : ByteArray} {i : Nat} (hi : i < s.size) (h : s[i] = 47) : 0 < cnt s := by
  refine List.count_pos_iff.2 ?_
  have hi' : i < s.data.toList.length := by rw [ba_size]; exact hi
  have : s.data.toList[i] = 47 := (bl_at hi' hi).trans h
  rw [← this]
  exact List.getElem_mem hi'
theorem cnt_digs {s : ByteArray} (h : digsB s = true) : cnt s = 0 := by
  obtain ⟨_, hd⟩ := digs_all h
  refine cnt_zero fun i hi he => ?_
  have := hd i hi
  rw [he] at this
  exact absurd this (by decide)
theorem cnt_parse {s : ByteArray} (h : parseB s = true) : cnt s = 0 := by
  unfold parseB at h
  simp only [Bool.and_eq_true] at h
  exact cnt_digs h.1.1
theorem cnt_fmtB {xs : List Int} (h : natB xs = true) : cnt (fmtB xs) = 0 := cnt_parse (parse_fmt h).1
theorem cnt_fmtZ {s : Bool} {xs : List Int} (h : bigB s xs = true) : cnt (fmtZ s xs) = 0 := by
  have hb := cnt_fmtB (bigB_nat h)
  cases s
  · rw [fmtZ_pos h]; exact hb
  · rw [fmtZ_neg h, cnt_app, hb]; decide
/-! ### where a text is cut -/
theorem cutB_sl (c : UInt8) : Go.Proofs.YtnbaookdeijhhaaGreatDoor.cutB sl sl.size c = decide (c = 47) := by
  unfold Go.Proofs.YtnbaookdeijhhaaGreatDoor.cutB
  apply decide_eq_decide.2
  constructor
  · rintro ⟨k, hk, _, hc⟩
    have : k = 0 := by have : sl.size = 1 := rfl; omega
    subst this
    exact hc.symm
  · intro hc
    exact ⟨0, by decide, by decide, hc.symm⟩
theorem pieces_run {s : ByteArray} {P : List ByteArray} {k : Nat} (hk : pieces s sl k = (P, k)) : ∀ i, k ≤ i → i ≤ s.size → (∀ j (h : j < s.size), k ≤ j → j < i → s[j] ≠ 47) → pieces s sl i = (P, k) := by
  intro i
  induction i with
  | zero =>
    intro h1 _ _
    have h0 : k = 0 := by omega
    rw [h0] at hk ⊢; exact hk
  | succ i ih =>
    intro h1 h2 h3
    by_cases h : k = i + 1
    · subst h; exact hk
    · rw [pieces_none (by omega) (by rw [cutB_sl]; exact decide_eq_false (h3 i (by omega) (by omega) (by omega)))]
      exact ih (by omega) (by omega) (fun j hj h4 h5 => h3 j hj h4 (by omega))
theorem pieces_more (s : ByteArray) (i : Nat) : ∀ d, ∃ r, (pieces s sl (i + d)).1 = (pieces s sl i).1 ++ r
  | 0 => ⟨[], by simp⟩
  | d + 1 => by
    obtain ⟨r, hr⟩ := pieces_more s i d
    rw [show i + (d + 1) = (i + d) + 1 by omega, pieces]
    split
    · exact ⟨r ++ [s.extract (pieces s sl (i + d)).2 (i + d)], by show (pieces s sl (i + d)).1 ++ _ = _; rw [hr, List.append_assoc]⟩
    · exact ⟨r, hr⟩
/-- the three ways in which a text may be cut -/
inductive Cuts (s : ByteArray) : Prop
  | none (h : ∀ j (h : j < s.size), s[j] ≠ 47) (hs : splitL s sl = [s]) : Cuts s
  | one (p : Nat) (hp : p < s.size) (h : s[p] = 47) (hn : ∀ j (h : j < s.size), j < p → s[j] ≠ 47) (hs : splitL s sl = [s.extract 0 p, s.extract (p + 1) s.size]) : Cuts s
  | more (p : Nat) (hp : p < s.size) (h : s[p] = 47) (hn : ∀ j (h : j < s.size), j < p → s[j] ≠ 47) (y : ByteArray) (r : List ByteArray) (hs : splitL s sl = s.extract 0 p :: y :: r) (hy : y.size ≤ s.size) (hc : 0 < cnt (s.extract (p + 1) s.size)) : Cuts s
theorem first_slash (s : ByteArray) : ∀ d k, d + k = s.size → (∀ j (h : j < s.size), k ≤ j → s[j] ≠ 47) ∨ ∃ p, ∃ hp : p < s.size, k ≤ p ∧ s[p] = 47 ∧ ∀ j (h : j < s.size), k ≤ j → j < p → s[j] ≠ 47
  | 0, k, h => .inl fun j hj hk => by omega
  | d + 1, k, h => by
    by_cases h0 : s[k] = 47
    · exact .inr ⟨k, by omega, Nat.le_refl _, h0, fun j _ h1 h2 => by omega⟩
    · rcases first_slash s d (k + 1) (by omega) with h1 | ⟨p, hp, h1, h2, h3⟩
      · refine .inl fun j hj hk => ?_
        by_cases e : j = k
        · subst e; exact h0
        · exact h1 j hj (by omega)
      · refine .inr ⟨p, hp, by omega, h2, fun j hj hk hjp => ?_⟩
        by_cases e : j = k
        · subst e; exact h0
        · exact h3 j hj (by omega) hjp
theorem extract_all (s : ByteArray) : s.extract 0 s.size = s := by
  apply ByteArray.ext
  simp
theorem cuts (s : ByteArray) : Cuts s := by
  have p0 : pieces s sl 0 = ([], 0) := rfl
  rcases first_slash s s.size 0 (by omega) with h | ⟨p, hp, _, h, hn⟩
  · refine .none (fun j hj => h j hj (Nat.zero_le _)) ?_
    rw [splitL, pieces_run p0 s.size (Nat.zero_le _) (Nat.le_refl _) (fun j hj _ _ => h j hj (Nat.zero_le _)), extract_all]; rfl
  · have hn' : ∀ j (h : j < s.size), j < p → s[j] ≠ 47 := fun j hj hjp => hn j hj (Nat.zero_le _) hjp
    have hpp : pieces s sl p = ([], 0) := pieces_run p0 p (Nat.zero_le _) (by omega) (fun j hj _ hjp => hn' j hj hjp)
    have hp1 : pieces s sl (p + 1) = ([s.extract 0 p], p + 1) := by
      rw [pieces_cut hp (by rw [cutB_sl]; exact decide_eq_true h), hpp]; rfl
    rcases first_slash s (s.size - (p + 1)) (p + 1) (by omega) with h2 | ⟨q, hq, hpq, h2, hn2⟩
    · refine .one p hp h hn' ?_
      rw [splitL, pieces_run hp1 s.size (by omega) (Nat.le_refl _) (fun j hj hk _ => h2 j hj hk)]; rfl
    · have hqq : pieces s sl q = ([s.extract 0 p], p + 1) := pieces_run hp1 q hpq (by omega) (fun j hj hk hjq => hn2 j hj hk hjq)
      have hq1 : pieces s sl (q + 1) = ([s.extract 0 p] ++ [s.extract (p + 1) q], q + 1) := by
        rw [pieces_cut hq (by rw [cutB_sl]; exact decide_eq_true h2), hqq]
      obtain ⟨r, hr⟩ := pieces_more s (q + 1) (s.size - (q + 1))
      rw [show q + 1 + (s.size - (q + 1)) = s.size by omega, hq1] at hr
      refine .more p hp h hn' (s.extract (p + 1) q) (r ++ [s.extract (pieces s sl s.size).2 s.size]) ?_ ?_ ?_
      · rw [splitL, hr]; simp
      · rw [ByteArray.size_extract]; omega
      · refine cnt_pos (i := q - (p + 1)) (by rw [ByteArray.size_extract]; omega) ?_
        rw [ByteArray.getElem_extract]
        have : p + 1 + (q - (p + 1)) = q := by omega
        simp only [this]; exact h2
/-! ### the library's cut -/
def headB (s : ByteArray) : ByteArray := ⟨(Lib.cut s.data.toList sl.data.toList).1.toArray⟩
def tailB (s : ByteArray) : ByteArray := ⟨(Lib.cut s.data.toList sl.data.toList).2.1.toArray⟩
def hasB (s : ByteArray) : Bool := (Lib.cut s.data.toList sl.data.toList).2.2
theorem occ_sl (s : ByteArray) (i : Nat) : Lib.occAt s.data.toList sl.data.toList i = if h : i < s.size then decide (s[i] = 47) else false := by
  show List.isPrefixOf [47] (s.data.toList.drop i) = _
  by_cases h : i < s.size
  · have hi : i < s.data.toList.length := by rw [ba_size]; exact h
    rw [dif_pos h, List.drop_eq_getElem_cons hi]
    rw [bl_at hi h]
    by_cases hc : s[i] = 47
    · rw [hc]; simp
    · rw [decide_eq_false hc]
      simp only [List.isPrefixOf, Bool.and_true, beq_eq_false_iff_ne]
      exact fun e => hc e.symm
  · rw [dif_neg h, List.drop_of_length_le (by rw [ba_size]; omega)]; rfl
theorem cut_none {s : ByteArray} (h : ∀ j (h : j < s.size), s[j] ≠ 47) : headB s = s ∧ hasB s = false := by
  have hi : Lib.indexB s sl = -1 := Lib.index_none fun j _ => by
    rw [occ_sl]; split
    · rename_i hj; exact decide_eq_false (h j hj)
    · rfl
  obtain ⟨h1, _, h3⟩ := Lib.cutB_miss s sl hi
  exact ⟨h1, h3⟩
theorem cut_some {s : ByteArray} {p : Nat} (hp : p < s.size) (h : s[p] = 47) (hn : ∀ j (h : j < s.size), j < p → s[j] ≠ 47) : headB s = s.extract 0 p ∧ tailB s = s.extract (p + 1) s.size ∧ hasB s = true := by
  have hi : Lib.indexB s sl = (p : Int) := Lib.index_first (by rw [ba_size]; omega) (by rw [occ_sl, dif_pos hp]; exact decide_eq_true h) fun j hj => by
    rw [occ_sl, dif_pos (show j < s.size by omega)]
    exact decide_eq_false (hn j (by omega) hj)
  exact Lib.cutB_hit s sl p hi
theorem head_le (s : ByteArray) : (headB s).size ≤ s.size ∧ (tailB s).size ≤ s.size := by
  rcases cuts s with ⟨h, _⟩ | ⟨p, hp, h, hn, _⟩ | ⟨p, hp, h, hn, _⟩
  · obtain ⟨h1, _⟩ := cut_none h
    have hi : Lib.indexB s sl = -1 := Lib.index_none fun j _ => by
      rw [occ_sl]; split
      · rename_i hj; exact decide_eq_false (h j hj)
      · rfl
    obtain ⟨_, h2, _⟩ := Lib.cutB_miss s sl hi
    rw [h1, show tailB s = ByteArray.empty from h2]
    exact ⟨Nat.le_refl _, Nat.zero_le _⟩
  · obtain ⟨h1, h2, _⟩ := cut_some hp h hn
    rw [h1, h2, ByteArray.size_extract, ByteArray.size_extract]; omega
  · obtain ⟨h1, h2, _⟩ := cut_some hp h hn
    rw [h1, h2, ByteArray.size_extract, ByteArray.size_extract]; omega
/-! ### what is parsed -/
def denS (s : ByteArray) : ByteArray := if hasB s then tailB s else ⟨#[49]⟩
def okRB (s : ByteArray) : Bool := parseZB (headB s) && parseB (denS s) && decide (fmtR (parseZ (headB s)).1 (parseZ (headB s)).2 (parseL (denS s)) = s)
def parR (s : ByteArray) : (Bool × List Int) × List Int := if okRB s then (parseZ (headB s), parseL (denS s)) else noR
theorem one_parse : parseB ⟨#[49]⟩ = true ∧ parseL ⟨#[49]⟩ = [1] := by
  have h := parse_fmt (a := [1]) (by decide)
  have e : fmtB [1] = ⟨#[49]⟩ := by decide +kernel
  rw [e] at h; exact h
end Go.Proofs.YtnbaookdeijhhaaGreatDoor
