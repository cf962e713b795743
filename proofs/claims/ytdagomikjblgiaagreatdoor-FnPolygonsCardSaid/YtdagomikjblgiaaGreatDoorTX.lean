/-
  The texts PtB, Itoa, PtT, put together; each has its own heading below. No condition of ours.
-/
import Derived.Test.YtdagomikjblgiaaGreatDoorMem
import Derived.Test.YtdagomikjblgiaaGreatDoorItoaD
import Derived.Lib.AtoiAll
import Derived.Test.YtdagomikjblgiaaGreatDoorSplitP
import Derived.Test.YtdagomikjblgiaaGreatDoorIntI
import Derived.Lib.CutLaws
/-
  Vectors: what is valid.
-/

namespace Go.Proofs.YtdagomikjblgiaaGreatDoor
def vecB (x y : Int) : Bool := decide (-1000 ≤ x ∧ x ≤ 1000) && decide (-1000 ≤ y ∧ y ≤ 1000)
end Go.Proofs.YtdagomikjblgiaaGreatDoor

/-
  Itoa and Atoi, as mathematics (second part).
-/


namespace Go.Proofs.YtdagomikjblgiaaGreatDoor
open Go.RowKit
set_option linter.unusedVariables false

theorem parse_dec : ∀ (l : List UInt8) (acc : Nat), (∀ c ∈ l, 48 ≤ c.toNat ∧ c.toNat ≤ 57) → acc * 10 ^ l.length + dval l < 18446744073709551616 → Lib.parseUint10 acc l = .ok (acc * 10 ^ l.length + dval l)
  | [], acc, _, _ => by simp [Lib.parseUint10, dval]
  | c :: r, acc, hc, hb => by
    have h1 := hc c (List.mem_cons_self ..)
    have e : acc * 10 ^ (c :: r).length + dval (c :: r) = (acc * 10 + (c.toNat - 48)) * 10 ^ r.length + dval r := by
      have e : dval (c :: r) = r.foldl (fun a c => a * 10 + (c.toNat - 48)) (0 * 10 + (c.toNat - 48)) := rfl
      rw [e, dval_fold, List.length_cons, Nat.pow_succ, Nat.zero_mul, Nat.zero_add, Nat.add_mul, Nat.mul_assoc, Nat.mul_comm 10, Nat.add_assoc]
    rw [e] at hb ⊢
    have hp : 1 ≤ 10 ^ r.length := Nat.one_le_pow _ _ (by omega)
    have hle : acc * 10 + (c.toNat - 48) ≤ (acc * 10 + (c.toNat - 48)) * 10 ^ r.length := Nat.le_mul_of_pos_right _ hp
    rw [Lib.parseUint10, if_pos h1, if_neg (by omega), if_neg (by omega)]
    exact parse_dec r _ (fun d hd => hc d (List.mem_cons_of_mem _ hd)) hb
theorem parseMag_dec {k : Nat} (h : k < 18446744073709551616) : Lib.parseMag (Lib.decDigits k) = .ok k := by
  have hne : Lib.decDigits k ≠ [] := fun e => by have := dec_pos k; rw [e] at this; simp at this
  rw [Lib.parseMag, if_neg hne, parse_dec _ 0 (dec_digit k) (by rw [dval_dec]; omega), dval_dec]
  simp
theorem atoi_itoa {n : Int} (h1 : -9223372036854775808 ≤ n) (h2 : n ≤ 9223372036854775807) : Lib.atoiAll (Lib.itoa n) = .ok n := by
  by_cases h0 : n < 0
  · obtain ⟨k, rfl⟩ : ∃ k : Nat, n = -(k : Int) := ⟨n.natAbs, by omega⟩
    rw [Lib.itoa_neg k (by omega), Lib.atoiAll]
    simp only [show (45 : UInt8).toNat = 45 from rfl, or_true, if_true]
    rw [parseMag_dec (by omega)]
    simp; omega
  · obtain ⟨k, rfl⟩ : ∃ k : Nat, n = (k : Int) := ⟨n.toNat, by omega⟩
    rw [Lib.itoa_nonneg]
    match hd : Lib.decDigits k with
    | [] => have := dec_pos k; rw [hd] at this; simp at this
    | c :: r =>
      have hc := dec_digit k c (by rw [hd]; exact List.mem_cons_self ..)
      rw [Lib.atoiAll, if_neg (by omega), ← hd, parseMag_dec (by omega)]
      simp only []
      rw [if_neg (by omega), if_neg (by omega), if_neg (by omega)]
theorem itoaB_inj {n m : Int} (h1 : -9223372036854775808 ≤ n) (h2 : n ≤ 9223372036854775807) (h3 : -9223372036854775808 ≤ m) (h4 : m ≤ 9223372036854775807) (h : itoaB n = itoaB m) : n = m := by
  have e : Lib.itoa n = Lib.itoa m := by rw [← itoaB_data, ← itoaB_data, h]
  have a := atoi_itoa h1 h2
  rw [e, atoi_itoa h3 h4] at a
  injection a with a
  exact a.symm
/-- no int has this text -/
def NoInt (s : ByteArray) : Prop := ∀ n : Int, -9223372036854775808 ≤ n → n ≤ 9223372036854775807 → itoaB n ≠ s
open Classical in
noncomputable def pok (s : ByteArray) : Bool := decide (¬ NoInt s)
open Classical in
noncomputable def pval (s : ByteArray) : Int := if h : ∃ n : Int, -9223372036854775808 ≤ n ∧ n ≤ 9223372036854775807 ∧ itoaB n = s then h.choose else 0
theorem parse_none {s : ByteArray} (h : NoInt s) : pok s = false ∧ pval s = 0 := by
  refine ⟨by simp [pok, h], ?_⟩
  unfold pval
  rw [dif_neg]
  rintro ⟨n, h1, h2, h3⟩
  exact h n h1 h2 h3
theorem parse_some {s : ByteArray} {n : Int} (h1 : -9223372036854775808 ≤ n) (h2 : n ≤ 9223372036854775807) (h : itoaB n = s) : pok s = true ∧ pval s = n := by
  have hn : ¬ NoInt s := fun hh => hh n h1 h2 h
  refine ⟨by simp [pok, hn], ?_⟩
  have hex : ∃ n : Int, -9223372036854775808 ≤ n ∧ n ≤ 9223372036854775807 ∧ itoaB n = s := ⟨n, h1, h2, h⟩
  unfold pval
  rw [dif_pos hex]
  have hs := hex.choose_spec
  exact itoaB_inj hs.1 hs.2.1 h1 h2 (hs.2.2.trans h.symm)
end Go.Proofs.YtdagomikjblgiaaGreatDoor

/-
  Points as text: where a text is cut at commas; what is parsed of a vector, of a point; said of bytes.
-/





namespace Go.Proofs.YtdagomikjblgiaaGreatDoor
open Go.RowKit
set_option linter.unusedVariables false

def slC : ByteArray := ⟨#[44]⟩
def cntC (s : ByteArray) : Nat := s.data.toList.count 44
theorem bl_atC {s : ByteArray} {i : Nat} (h1 : i < s.data.toList.length) (h : i < s.size) : s.data.toList[i] = s[i] := by
  rw [Array.getElem_toList]; rfl
theorem cnt_posC {s : ByteArray} {i : Nat} (hi : i < s.size) (h : s[i] = 44) : 0 < cntC s := by
  refine List.count_pos_iff.2 ?_
  have hi' : i < s.data.toList.length := by rw [ba_size]; exact hi
  have : s.data.toList[i] = 44 := (bl_atC hi' hi).trans h
  rw [← this]
  exact List.getElem_mem hi'
theorem cutB_slC (c : UInt8) : Go.Proofs.YtdagomikjblgiaaGreatDoor.cutB slC slC.size c = decide (c = 44) := by
  unfold Go.Proofs.YtdagomikjblgiaaGreatDoor.cutB
  apply decide_eq_decide.2
  constructor
  · rintro ⟨k, hk, _, hc⟩
    have : k = 0 := by have : slC.size = 1 := rfl; omega
    subst this
    exact hc.symm
  · intro hc
    exact ⟨0, by decide, by decide, hc.symm⟩
theorem pieces_runC {s : ByteArray} {P : List ByteArray} {k : Nat} (hk : pieces s slC k = (P, k)) : ∀ i, k ≤ i → i ≤ s.size → (∀ j (h : j < s.size), k ≤ j → j < i → s[j] ≠ 44) → pieces s slC i = (P, k) := by
  intro i
  induction i with
  | zero =>
    intro h1 _ _
    have h0 : k = 0 := by omega
    rw [h0] at hk ⊢; exact hk
  | succ i ih =>
    intro h1 h2 h3
    by_cases h : k = i + 1
    · subst h; exact hk
    · rw [pieces_none (by omega) (by rw [cutB_slC]; exact decide_eq_false (h3 i (by omega) (by omega) (by omega)))]
      exact ih (by omega) (by omega) (fun j hj h4 h5 => h3 j hj h4 (by omega))
theorem pieces_moreC (s : ByteArray) (i : Nat) : ∀ d, ∃ r, (pieces s slC (i + d)).1 = (pieces s slC i).1 ++ r
  | 0 => ⟨[], by simp⟩
  | d + 1 => by
    obtain ⟨r, hr⟩ := pieces_moreC s i d
    rw [show i + (d + 1) = (i + d) + 1 by omega, pieces]
    split
    · exact ⟨r ++ [s.extract (pieces s slC (i + d)).2 (i + d)], by show (pieces s slC (i + d)).1 ++ _ = _; rw [hr, List.append_assoc]⟩
    · exact ⟨r, hr⟩
inductive CutsC (s : ByteArray) : Prop
  | none (h : ∀ j (h : j < s.size), s[j] ≠ 44) (hs : splitL s slC = [s]) : CutsC s
  | one (p : Nat) (hp : p < s.size) (h : s[p] = 44) (hn : ∀ j (h : j < s.size), j < p → s[j] ≠ 44) (hs : splitL s slC = [s.extract 0 p, s.extract (p + 1) s.size]) : CutsC s
  | more (p : Nat) (hp : p < s.size) (h : s[p] = 44) (hn : ∀ j (h : j < s.size), j < p → s[j] ≠ 44) (y : ByteArray) (r : List ByteArray) (hr : r ≠ []) (hs : splitL s slC = s.extract 0 p :: y :: r) (hy : y.size ≤ s.size) (hc : 0 < cntC (s.extract (p + 1) s.size)) : CutsC s
theorem first_slashC (s : ByteArray) : ∀ d k, d + k = s.size → (∀ j (h : j < s.size), k ≤ j → s[j] ≠ 44) ∨ ∃ p, ∃ hp : p < s.size, k ≤ p ∧ s[p] = 44 ∧ ∀ j (h : j < s.size), k ≤ j → j < p → s[j] ≠ 44
  | 0, k, h => .inl fun j hj hk => by omega
  | d + 1, k, h => by
    by_cases h0 : s[k] = 44
    · exact .inr ⟨k, by omega, Nat.le_refl _, h0, fun j _ h1 h2 => by omega⟩
    · rcases first_slashC s d (k + 1) (by omega) with h1 | ⟨p, hp, h1, h2, h3⟩
      · refine .inl fun j hj hk => ?_
        by_cases e : j = k
        · subst e; exact h0
        · exact h1 j hj (by omega)
      · refine .inr ⟨p, hp, by omega, h2, fun j hj hk hjp => ?_⟩
        by_cases e : j = k
        · subst e; exact h0
        · exact h3 j hj (by omega) hjp
theorem extract_allC (s : ByteArray) : s.extract 0 s.size = s := by
  apply ByteArray.ext
  simp
theorem cutsC (s : ByteArray) : CutsC s := by
  have p0 : pieces s slC 0 = ([], 0) := rfl
  rcases first_slashC s s.size 0 (by omega) with h | ⟨p, hp, _, h, hn⟩
  · refine .none (fun j hj => h j hj (Nat.zero_le _)) ?_
    rw [splitL, pieces_runC p0 s.size (Nat.zero_le _) (Nat.le_refl _) (fun j hj _ _ => h j hj (Nat.zero_le _)), extract_allC]; rfl
  · have hn' : ∀ j (h : j < s.size), j < p → s[j] ≠ 44 := fun j hj hjp => hn j hj (Nat.zero_le _) hjp
    have hpp : pieces s slC p = ([], 0) := pieces_runC p0 p (Nat.zero_le _) (by omega) (fun j hj _ hjp => hn' j hj hjp)
    have hp1 : pieces s slC (p + 1) = ([s.extract 0 p], p + 1) := by
      rw [pieces_cut hp (by rw [cutB_slC]; exact decide_eq_true h), hpp]; rfl
    rcases first_slashC s (s.size - (p + 1)) (p + 1) (by omega) with h2 | ⟨q, hq, hpq, h2, hn2⟩
    · refine .one p hp h hn' ?_
      rw [splitL, pieces_runC hp1 s.size (by omega) (Nat.le_refl _) (fun j hj hk _ => h2 j hj hk)]; rfl
    · have hqq : pieces s slC q = ([s.extract 0 p], p + 1) := pieces_runC hp1 q hpq (by omega) (fun j hj hk hjq => hn2 j hj hk hjq)
      have hq1 : pieces s slC (q + 1) = ([s.extract 0 p] ++ [s.extract (p + 1) q], q + 1) := by
        rw [pieces_cut hq (by rw [cutB_slC]; exact decide_eq_true h2), hqq]
      obtain ⟨r, hr⟩ := pieces_moreC s (q + 1) (s.size - (q + 1))
      rw [show q + 1 + (s.size - (q + 1)) = s.size by omega, hq1] at hr
      refine .more p hp h hn' (s.extract (p + 1) q) (r ++ [s.extract (pieces s slC s.size).2 s.size]) (by simp) ?_ ?_ ?_
      · rw [splitL, hr]; simp
      · rw [ByteArray.size_extract]; omega
      · refine cnt_posC (i := q - (p + 1)) (by rw [ByteArray.size_extract]; omega) ?_
        rw [ByteArray.getElem_extract]
        have : p + 1 + (q - (p + 1)) = q := by omega
        simp only [this]; exact h2
def headBC (s : ByteArray) : ByteArray := ⟨(Lib.cut s.data.toList slC.data.toList).1.toArray⟩
def tailBC (s : ByteArray) : ByteArray := ⟨(Lib.cut s.data.toList slC.data.toList).2.1.toArray⟩
def hasBC (s : ByteArray) : Bool := (Lib.cut s.data.toList slC.data.toList).2.2
theorem occ_slC (s : ByteArray) (i : Nat) : Lib.occAt s.data.toList slC.data.toList i = if h : i < s.size then decide (s[i] = 44) else false := by
  show List.isPrefixOf [44] (s.data.toList.drop i) = _
  by_cases h : i < s.size
  · have hi : i < s.data.toList.length := by rw [ba_size]; exact h
    rw [dif_pos h, List.drop_eq_getElem_cons hi]
    rw [bl_atC hi h]
    by_cases hc : s[i] = 44
    · rw [hc]; simp
    · rw [decide_eq_false hc]
      simp only [List.isPrefixOf, Bool.and_true, beq_eq_false_iff_ne]
      exact fun e => hc e.symm
  · rw [dif_neg h, List.drop_of_length_le (by rw [ba_size]; omega)]; rfl
theorem cut_noneC {s : ByteArray} (h : ∀ j (h : j < s.size), s[j] ≠ 44) : headBC s = s ∧ hasBC s = false := by
  have hi : Lib.indexB s slC = -1 := Lib.index_none fun j _ => by
    rw [occ_slC]; split
    · rename_i hj; exact decide_eq_false (h j hj)
    · rfl
  obtain ⟨h1, _, h3⟩ := Lib.cutB_miss s slC hi
  exact ⟨h1, h3⟩
theorem cut_someC {s : ByteArray} {p : Nat} (hp : p < s.size) (h : s[p] = 44) (hn : ∀ j (h : j < s.size), j < p → s[j] ≠ 44) : headBC s = s.extract 0 p ∧ tailBC s = s.extract (p + 1) s.size ∧ hasBC s = true := by
  have hi : Lib.indexB s slC = (p : Int) := Lib.index_first (by rw [ba_size]; omega) (by rw [occ_slC, dif_pos hp]; exact decide_eq_true h) fun j hj => by
    rw [occ_slC, dif_pos (show j < s.size by omega)]
    exact decide_eq_false (hn j (by omega) hj)
  exact Lib.cutB_hit s slC p hi
theorem head_leC (s : ByteArray) : (headBC s).size ≤ s.size ∧ (tailBC s).size ≤ s.size := by
  rcases cutsC s with ⟨h, _⟩ | ⟨p, hp, h, hn, _⟩ | ⟨p, hp, h, hn, _⟩
  · obtain ⟨h1, _⟩ := cut_noneC h
    have hi : Lib.indexB s slC = -1 := Lib.index_none fun j _ => by
      rw [occ_slC]; split
      · rename_i hj; exact decide_eq_false (h j hj)
      · rfl
    obtain ⟨_, h2, _⟩ := Lib.cutB_miss s slC hi
    rw [h1, show tailBC s = ByteArray.empty from h2]
    exact ⟨Nat.le_refl _, Nat.zero_le _⟩
  · obtain ⟨h1, h2, _⟩ := cut_someC hp h hn
    rw [h1, h2, ByteArray.size_extract, ByteArray.size_extract]; omega
  · obtain ⟨h1, h2, _⟩ := cut_someC hp h hn
    rw [h1, h2, ByteArray.size_extract, ByteArray.size_extract]; omega
/-! ### texts without commas -/
theorem cntC_dec (k : Nat) : List.count 44 (Lib.decDigits k) = 0 := by
  refine List.count_eq_zero.2 fun hm => ?_
  have := dec_digit k 44 hm
  exact absurd this.1 (by decide)
theorem cntC_itoa (n : Int) : cntC (itoaB n) = 0 := by
  unfold cntC
  rw [itoaB_data]
  unfold Lib.itoa
  split
  · rw [List.count_cons_of_ne (by decide), cntC_dec]
  · exact cntC_dec _
theorem cntC_pok {s : ByteArray} (h : pok s = true) : cntC s = 0 := by
  have h : ¬ NoInt s := by simpa [pok] using h
  apply Classical.byContradiction
  intro hc
  exact h fun n h1 h2 e => hc (by rw [← e]; exact cntC_itoa n)
theorem pval_wf (s : ByteArray) : (Lit.int .i64 (pval s)).wf = true := by
  by_cases h : NoInt s
  · rw [(parse_none h).2]; rfl
  · have : ∃ n : Int, -9223372036854775808 ≤ n ∧ n ≤ 9223372036854775807 ∧ itoaB n = s := by
      apply Classical.byContradiction
      intro hc
      exact h fun n h1 h2 e => hc ⟨n, h1, h2, e⟩
    obtain ⟨n, h1, h2, e⟩ := this
    rw [(parse_some h1 h2 e).2]
    exact WalkArith.wf_i64 ⟨h1, h2⟩
theorem pok_nil : pok ⟨#[]⟩ = false := by
  refine (parse_none fun n h1 h2 e => ?_).1
  have h : (itoaB n).data.toList = [] := by rw [e]
  rw [itoaB_data] at h
  unfold Lib.itoa at h
  split at h
  · cases h
  · have := dec_pos n.toNat
    rw [h] at this
    exact absurd this (by simp)
/-! ### what is parsed -/
def fmtV (x y : Int) : ByteArray := if vecB x y then (itoaB x ++ ⟨#[44]⟩) ++ itoaB y else ⟨#[]⟩
theorem fmtV_no {x y : Int} (h : vecB x y = false) : fmtV x y = ⟨#[]⟩ := by rw [fmtV, h]; rfl
theorem fmtV_ok {x y : Int} (h : vecB x y = true) : fmtV x y = (itoaB x ++ ⟨#[44]⟩) ++ itoaB y := by rw [fmtV, h]; rfl
noncomputable def okV (s : ByteArray) : Bool := pok (headBC s) && (pok (tailBC s) && vecB (pval (headBC s)) (pval (tailBC s)))
noncomputable def parV (s : ByteArray) : Int × Int := if okV s then (pval (headBC s), pval (tailBC s)) else (0, 0)
theorem okV_tail {s : ByteArray} (h : tailBC s = ⟨#[]⟩ ∨ 0 < cntC (tailBC s)) : okV s = false := by
  have : pok (tailBC s) = false := by
    by_cases hp : pok (tailBC s) = true
    · rcases h with h | h
      · rw [h, pok_nil] at hp; cases hp
      · have := cntC_pok hp; omega
    · simpa using hp
  rw [okV, this]; simp
theorem parV_wf (s : ByteArray) : (Lit.int .i64 (parV s).1).wf = true ∧ (Lit.int .i64 (parV s).2).wf = true := by
  unfold parV; split
  · exact ⟨pval_wf _, pval_wf _⟩
  · exact ⟨rfl, rfl⟩
end Go.Proofs.YtdagomikjblgiaaGreatDoor
