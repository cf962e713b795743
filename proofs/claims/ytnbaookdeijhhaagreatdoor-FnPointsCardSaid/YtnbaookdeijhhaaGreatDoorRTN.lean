/-
  The texts RatT, RatN, put together; each has its own heading below. No condition of ours.
-/
import Derived.Test.YtnbaookdeijhhaaGreatDoorRatS
import Derived.Test.YtnbaookdeijhhaaGreatDoorBigQ
import Derived.Test.YtnbaookdeijhhaaGreatDoorSplitP
import Derived.Test.YtnbaookdeijhhaaGreatDoorFX
import Derived.Lib.CutLaws
import Derived.Test.YtnbaookdeijhhaaGreatDoorPB
import Derived.Test.YtnbaookdeijhhaaGreatDoorBND
/-
  Fractions as text: where a text is cut, and what is parsed; said of bytes.
-/





namespace Go.Proofs.YtnbaookdeijhhaaGreatDoor
open Go.RowKit
set_option linter.unusedVariables false

def sl : ByteArray := ⟨#[47]⟩
/-- how many bytes are slashes -/
def cnt (s : ByteArray) : Nat := s.data.toList.count 47
theorem cnt_app (a b : ByteArray) : cnt (a ++ b) = cnt a + cnt b := by simp [cnt]
theorem bl_at {s : ByteArray} {i : Nat} (h1 : i < s.data.toList.length) (h : i < s.size) : s.data.toList[i] = s[i] := by
  rw [Array.getElem_toList]; rfl
theorem cnt_zero {s : ByteArray} (h : ∀ i (h : i < s.size), s[i] ≠ 47) : cnt s = 0 := by
  refine List.count_eq_zero.2 fun hm => ?_
  obtain ⟨i, hi, he⟩ := List.getElem_of_mem hm
  have hi' : i < s.size := by rw [ba_size] at hi; exact hi
  exact h i hi' ((bl_at hi hi').symm.trans he)
theorem cnt_pos {s : ByteArray} {i : Nat} (hi : i < s.size) (h : s[i] = 47) : 0 < cnt s := by
  refine List.count_pos_iff.2 ?_
  have hi' : i < s.data.toList.length := by rw [ba_size]; exact hi
  have : s.data.toList[i] = 47 := (bl_at hi' hi).trans h
  rw [← this]
  exact List.getElem_mem hi'
theorem cnt_digs {s : ByteArray} (h : digsB s = true) : cnt s = 0 := by
  obtain ⟨_, hd⟩ := digs_all h
  refine cnt_zero fun i hi he => ?_
  have := hd i hi
  rw [he] at this
  exact absurd this (by decide)
theorem cnt_parse {s : ByteArray} (h : parseB s = true) : cnt s = 0 := by
  unfold parseB at h
  simp only [Bool.and_eq_true] at h
  exact cnt_digs h.1.1
theorem cnt_fmtB {xs : List Int} (h : natB xs = true) : cnt (fmtB xs) = 0 := cnt_parse (parse_fmt h).1
theorem cnt_fmtZ {s : Bool} {xs : List Int} (h : bigB s xs = true) : cnt (fmtZ s xs) = 0 := by
  have hb := cnt_fmtB (bigB_nat h)
  cases s
  · rw [fmtZ_pos h]; exact hb
  · rw [fmtZ_neg h, cnt_app, hb]; decide
/-! ### where a text is cut -/
theorem cutB_sl (c : UInt8) : Go.Proofs.YtnbaookdeijhhaaGreatDoor.cutB sl sl.size c = decide (c = 47) := by
  unfold Go.Proofs.YtnbaookdeijhhaaGreatDoor.cutB
  apply decide_eq_decide.2
  constructor
  · rintro ⟨k, hk, _, hc⟩
    have : k = 0 := by have : sl.size = 1 := rfl; omega
    subst this
    exact hc.symm
  · intro hc
    exact ⟨0, by decide, by decide, hc.symm⟩
theorem pieces_run {s : ByteArray} {P : List ByteArray} {k : Nat} (hk : pieces s sl k = (P, k)) : ∀ i, k ≤ i → i ≤ s.size → (∀ j (h : j < s.size), k ≤ j → j < i → s[j] ≠ 47) → pieces s sl i = (P, k) := by
  intro i
  induction i with
  | zero =>
    intro h1 _ _
    have h0 : k = 0 := by omega
    rw [h0] at hk ⊢; exact hk
  | succ i ih =>
    intro h1 h2 h3
    by_cases h : k = i + 1
    · subst h; exact hk
    · rw [pieces_none (by omega) (by rw [cutB_sl]; exact decide_eq_false (h3 i (by omega) (by omega) (by omega)))]
      exact ih (by omega) (by omega) (fun j hj h4 h5 => h3 j hj h4 (by omega))
theorem pieces_more (s : ByteArray) (i : Nat) : ∀ d, ∃ r, (pieces s sl (i + d)).1 = (pieces s sl i).1 ++ r
  | 0 => ⟨[], by simp⟩
  | d + 1 => by
    obtain ⟨r, hr⟩ := pieces_more s i d
    rw [show i + (d + 1) = (i + d) + 1 by omega, pieces]
    split
    · exact ⟨r ++ [s.extract (pieces s sl (i + d)).2 (i + d)], by show (pieces s sl (i + d)).1 ++ _ = _; rw [hr, List.append_assoc]⟩
    · exact ⟨r, hr⟩
/-- the three ways in which a text may be cut -/
inductive Cuts (s : ByteArray) : Prop
  | none (h : ∀ j (h : j < s.size), s[j] ≠ 47) (hs : splitL s sl = [s]) : Cuts s
  | one (p : Nat) (hp : p < s.size) (h : s[p] = 47) (hn : ∀ j (h : j < s.size), j < p → s[j] ≠ 47) (hs : splitL s sl = [s.extract 0 p, s.extract (p + 1) s.size]) : Cuts s
  | more (p : Nat) (hp : p < s.size) (h : s[p] = 47) (hn : ∀ j (h : j < s.size), j < p → s[j] ≠ 47) (y : ByteArray) (r : List ByteArray) (hs : splitL s sl = s.extract 0 p :: y :: r) (hy : y.size ≤ s.size) (hc : 0 < cnt (s.extract (p + 1) s.size)) : Cuts s
theorem first_slash (s : ByteArray) : ∀ d k, d + k = s.size → (∀ j (h : j < s.size), k ≤ j → s[j] ≠ 47) ∨ ∃ p, ∃ hp : p < s.size, k ≤ p ∧ s[p] = 47 ∧ ∀ j (h : j < s.size), k ≤ j → j < p → s[j] ≠ 47
  | 0, k, h => .inl fun j hj hk => by omega
  | d + 1, k, h => by
    by_cases h0 : s[k] = 47
    · exact .inr ⟨k, by omega, Nat.le_refl _, h0, fun j _ h1 h2 => by omega⟩
    · rcases first_slash s d (k + 1) (by omega) with h1 | ⟨p, hp, h1, h2, h3⟩
      · refine .inl fun j hj hk => ?_
        by_cases e : j = k
        · subst e; exact h0
        · exact h1 j hj (by omega)
      · refine .inr ⟨p, hp, by omega, h2, fun j hj hk hjp => ?_⟩
        by_cases e : j = k
        · subst e; exact h0
        · exact h3 j hj (by omega) hjp
theorem extract_all (s : ByteArray) : s.extract 0 s.size = s := by
  apply ByteArray.ext
  simp
theorem cuts (s : ByteArray) : Cuts s := by
  have p0 : pieces s sl 0 = ([], 0) := rfl
  rcases first_slash s s.size 0 (by omega) with h | ⟨p, hp, _, h, hn⟩
  · refine .none (fun j hj => h j hj (Nat.zero_le _)) ?_
    rw [splitL, pieces_run p0 s.size (Nat.zero_le _) (Nat.le_refl _) (fun j hj _ _ => h j hj (Nat.zero_le _)), extract_all]; rfl
  · have hn' : ∀ j (h : j < s.size), j < p → s[j] ≠ 47 := fun j hj hjp => hn j hj (Nat.zero_le _) hjp
    have hpp : pieces s sl p = ([], 0) := pieces_run p0 p (Nat.zero_le _) (by omega) (fun j hj _ hjp => hn' j hj hjp)
    have hp1 : pieces s sl (p + 1) = ([s.extract 0 p], p + 1) := by
      rw [pieces_cut hp (by rw [cutB_sl]; exact decide_eq_true h), hpp]; rfl
    rcases first_slash s (s.size - (p + 1)) (p + 1) (by omega) with h2 | ⟨q, hq, hpq, h2, hn2⟩
    · refine .one p hp h hn' ?_
      rw [splitL, pieces_run hp1 s.size (by omega) (Nat.le_refl _) (fun j hj hk _ => h2 j hj hk)]; rfl
    · have hqq : pieces s sl q = ([s.extract 0 p], p + 1) := pieces_run hp1 q hpq (by omega) (fun j hj hk hjq => hn2 j hj hk hjq)
      have hq1 : pieces s sl (q + 1) = ([s.extract 0 p] ++ [s.extract (p + 1) q], q + 1) := by
        rw [pieces_cut hq (by rw [cutB_sl]; exact decide_eq_true h2), hqq]
      obtain ⟨r, hr⟩ := pieces_more s (q + 1) (s.size - (q + 1))
      rw [show q + 1 + (s.size - (q + 1)) = s.size by omega, hq1] at hr
      refine .more p hp h hn' (s.extract (p + 1) q) (r ++ [s.extract (pieces s sl s.size).2 s.size]) ?_ ?_ ?_
      · rw [splitL, hr]; simp
      · rw [ByteArray.size_extract]; omega
      · refine cnt_pos (i := q - (p + 1)) (by rw [ByteArray.size_extract]; omega) ?_
        rw [ByteArray.getElem_extract]
        have : p + 1 + (q - (p + 1)) = q := by omega
        simp only [this]; exact h2
/-! ### the library's cut -/
def headB (s : ByteArray) : ByteArray := ⟨(Lib.cut s.data.toList sl.data.toList).1.toArray⟩
def tailB (s : ByteArray) : ByteArray := ⟨(Lib.cut s.data.toList sl.data.toList).2.1.toArray⟩
def hasB (s : ByteArray) : Bool := (Lib.cut s.data.toList sl.data.toList).2.2
theorem occ_sl (s : ByteArray) (i : Nat) : Lib.occAt s.data.toList sl.data.toList i = if h : i < s.size then decide (s[i] = 47) else false := by
  show List.isPrefixOf [47] (s.data.toList.drop i) = _
  by_cases h : i < s.size
  · have hi : i < s.data.toList.length := by rw [ba_size]; exact h
    rw [dif_pos h, List.drop_eq_getElem_cons hi]
    rw [bl_at hi h]
    by_cases hc : s[i] = 47
    · rw [hc]; simp
    · rw [decide_eq_false hc]
      simp only [List.isPrefixOf, Bool.and_true, beq_eq_false_iff_ne]
      exact fun e => hc e.symm
  · rw [dif_neg h, List.drop_of_length_le (by rw [ba_size]; omega)]; rfl
theorem cut_none {s : ByteArray} (h : ∀ j (h : j < s.size), s[j] ≠ 47) : headB s = s ∧ hasB s = false := by
  have hi : Lib.indexB s sl = -1 := Lib.index_none fun j _ => by
    rw [occ_sl]; split
    · rename_i hj; exact decide_eq_false (h j hj)
    · rfl
  obtain ⟨h1, _, h3⟩ := Lib.cutB_miss s sl hi
  exact ⟨h1, h3⟩
theorem cut_some {s : ByteArray} {p : Nat} (hp : p < s.size) (h : s[p] = 47) (hn : ∀ j (h : j < s.size), j < p → s[j] ≠ 47) : headB s = s.extract 0 p ∧ tailB s = s.extract (p + 1) s.size ∧ hasB s = true := by
  have hi : Lib.indexB s sl = (p : Int) := Lib.index_first (by rw [ba_size]; omega) (by rw [occ_sl, dif_pos hp]; exact decide_eq_true h) fun j hj => by
    rw [occ_sl, dif_pos (show j < s.size by omega)]
    exact decide_eq_false (hn j (by omega) hj)
  exact Lib.cutB_hit s sl p hi
theorem head_le (s : ByteArray) : (headB s).size ≤ s.size ∧ (tailB s).size ≤ s.size := by
  rcases cuts s with ⟨h, _⟩ | ⟨p, hp, h, hn, _⟩ | ⟨p, hp, h, hn, _⟩
  · obtain ⟨h1, _⟩ := cut_none h
    have hi : Lib.indexB s sl = -1 := Lib.index_none fun j _ => by
      rw [occ_sl]; split
      · rename_i hj; exact decide_eq_false (h j hj)
      · rfl
    obtain ⟨_, h2, _⟩ := Lib.cutB_miss s sl hi
    rw [h1, show tailB s = ByteArray.empty from h2]
    exact ⟨Nat.le_refl _, Nat.zero_le _⟩
  · obtain ⟨h1, h2, _⟩ := cut_some hp h hn
    rw [h1, h2, ByteArray.size_extract, ByteArray.size_extract]; omega
  · obtain ⟨h1, h2, _⟩ := cut_some hp h hn
    rw [h1, h2, ByteArray.size_extract, ByteArray.size_extract]; omega
/-! ### what is parsed -/
def denS (s : ByteArray) : ByteArray := if hasB s then tailB s else ⟨#[49]⟩
def okRB (s : ByteArray) : Bool := parseZB (headB s) && parseB (denS s) && decide (fmtR (parseZ (headB s)).1 (parseZ (headB s)).2 (parseL (denS s)) = s)
def parR (s : ByteArray) : (Bool × List Int) × List Int := if okRB s then (parseZ (headB s), parseL (denS s)) else noR
theorem parR_len (s : ByteArray) : (parR s).1.2.length ≤ 1048576 ∧ (parR s).2.length ≤ 1048576 := by
  unfold parR; split
  · exact ⟨parseZ_len _, parseL_len _⟩
  · exact noR_len
theorem one_parse : parseB ⟨#[49]⟩ = true ∧ parseL ⟨#[49]⟩ = [1] := by
  have h := parse_fmt (a := [1]) (by decide)
  have e : fmtB [1] = ⟨#[49]⟩ := by decide +kernel
  rw [e] at h; exact h
end Go.Proofs.YtnbaookdeijhhaaGreatDoor

/-
  Fractions said of numbers: which fraction an operation makes, and that a text gives its fraction back.
-/



namespace Go.Proofs.YtnbaookdeijhhaaGreatDoor
open Go.RowKit
set_option linter.unusedVariables false

theorem cop_eq {p q p' q' : Nat} (h : Nat.gcd p q = 1) (h' : Nat.gcd p' q' = 1) (hq : 0 < q) (hq' : 0 < q') (he : p * q' = p' * q) : p = p' ∧ q = q' := by
  have d1 : q ∣ q' := by
    have : q ∣ p * q' := ⟨p', by rw [he, Nat.mul_comm]⟩
    exact Nat.Coprime.dvd_of_dvd_mul_left (show Nat.Coprime q p by rw [Nat.Coprime, Nat.gcd_comm]; exact h) this
  have d2 : q' ∣ q := by
    have : q' ∣ p' * q := ⟨p, by rw [← he, Nat.mul_comm]⟩
    exact Nat.Coprime.dvd_of_dvd_mul_left (show Nat.Coprime q' p' by rw [Nat.Coprime, Nat.gcd_comm]; exact h') this
  have e : q = q' := Nat.dvd_antisymm d1 d2
  subst e
  exact ⟨Nat.eq_of_mul_eq_mul_right hq he, rfl⟩
theorem gcd_red (m n : Nat) (h : 0 < Nat.gcd m n) : Nat.gcd (m / Nat.gcd m n) (n / Nat.gcd m n) = 1 :=
  (Nat.gcd_div (Nat.gcd_dvd_left m n) (Nat.gcd_dvd_right m n)).trans (Nat.div_self h)
/-- a fraction hangs on its value alone -/
theorem lowR_congr {z z' : Int} {d d' : Nat} (hd : 0 < d) (hd' : 0 < d') (he : z * (d' : Int) = z' * (d : Int)) : lowR z d = lowR z' d' := by
  have hn : z.natAbs * d' = z'.natAbs * d := by
    have := congrArg Int.natAbs he
    rw [Int.natAbs_mul, Int.natAbs_mul] at this
    simpa using this
  have hg : 0 < Nat.gcd z.natAbs d := Nat.gcd_pos_of_pos_right _ hd
  have hg' : 0 < Nat.gcd z'.natAbs d' := Nat.gcd_pos_of_pos_right _ hd'
  have hs : decide (z < 0) = decide (z' < 0) := by
    refine decide_eq_decide.2 ⟨fun h => ?_, fun h => ?_⟩
    · by_cases h2 : z' < 0
      · exact h2
      · have h3 : z * (d' : Int) < 0 := Int.mul_neg_of_neg_of_pos h (by omega)
        have h4 : 0 ≤ z' * (d : Int) := Int.mul_nonneg (by omega) (by omega)
        omega
    · by_cases h2 : z < 0
      · exact h2
      · have h3 : z' * (d : Int) < 0 := Int.mul_neg_of_neg_of_pos h (by omega)
        have h4 : 0 ≤ z * (d' : Int) := Int.mul_nonneg (by omega) (by omega)
        omega
  obtain ⟨a, ha⟩ := Nat.gcd_dvd_left z.natAbs d
  obtain ⟨b, hb⟩ := Nat.gcd_dvd_right z.natAbs d
  obtain ⟨a', ha'⟩ := Nat.gcd_dvd_left z'.natAbs d'
  obtain ⟨b', hb'⟩ := Nat.gcd_dvd_right z'.natAbs d'
  have c1 := gcd_red z.natAbs d hg
  have c2 := gcd_red z'.natAbs d' hg'
  have hb0 : 0 < d / Nat.gcd z.natAbs d := Nat.div_pos (Nat.le_of_dvd hd (Nat.gcd_dvd_right _ _)) hg
  have hb0' : 0 < d' / Nat.gcd z'.natAbs d' := Nat.div_pos (Nat.le_of_dvd hd' (Nat.gcd_dvd_right _ _)) hg'
  have hx : z.natAbs / Nat.gcd z.natAbs d * (d' / Nat.gcd z'.natAbs d') = z'.natAbs / Nat.gcd z'.natAbs d' * (d / Nat.gcd z.natAbs d) := by
    refine Nat.eq_of_mul_eq_mul_left (Nat.mul_pos hg hg') ?_
    have e1 := Nat.mul_div_cancel' (Nat.gcd_dvd_left z.natAbs d)
    have e2 := Nat.mul_div_cancel' (Nat.gcd_dvd_right z.natAbs d)
    have e3 := Nat.mul_div_cancel' (Nat.gcd_dvd_left z'.natAbs d')
    have e4 := Nat.mul_div_cancel' (Nat.gcd_dvd_right z'.natAbs d')
    calc Nat.gcd z.natAbs d * Nat.gcd z'.natAbs d' * (z.natAbs / Nat.gcd z.natAbs d * (d' / Nat.gcd z'.natAbs d'))
        = (Nat.gcd z.natAbs d * (z.natAbs / Nat.gcd z.natAbs d)) * (Nat.gcd z'.natAbs d' * (d' / Nat.gcd z'.natAbs d')) := by ac_rfl
      _ = (Nat.gcd z'.natAbs d' * (z'.natAbs / Nat.gcd z'.natAbs d')) * (Nat.gcd z.natAbs d * (d / Nat.gcd z.natAbs d)) := by rw [e1, e2, e3, e4, hn]
      _ = _ := by ac_rfl
  obtain ⟨k1, k2⟩ := cop_eq c1 c2 hb0 hb0' hx
  unfold lowR
  rw [hs, k1, k2]
  by_cases hc : (limbs (z'.natAbs / Nat.gcd z'.natAbs d')).length ≤ 24 ∧ (limbs (d' / Nat.gcd z'.natAbs d')).length ≤ 24
  · rw [if_pos ⟨by omega, hc⟩, if_pos ⟨by omega, hc⟩]
  · rw [if_neg (fun h => hc h.2), if_neg (fun h => hc h.2)]
/-- the fraction z over d, and that it fits -/
def IsR (Z : (Bool × List Int) × List Int) (z : Int) (d : Nat) : Prop :=
  Z = lowR z d ∧ ratB Z.1.1 Z.1.2 Z.2 = true ∧ ∃ g : Nat, 0 < g ∧ zv Z.1.1 Z.1.2 * (g : Int) = z ∧ natV Z.2 * g = d
theorem isR {z : Int} {d : Nat} (h0 : 0 < d) (hz : z.natAbs < 1000000000 ^ 24) (hd : d < 1000000000 ^ 24) : IsR (lowR z d) z d := by
  have hg : 0 < Nat.gcd z.natAbs d := Nat.gcd_pos_of_pos_right _ h0
  have l1 : z.natAbs / Nat.gcd z.natAbs d < 1000000000 ^ 24 := Nat.lt_of_le_of_lt (Nat.div_le_self _ _) hz
  have l2 : d / Nat.gcd z.natAbs d < 1000000000 ^ 24 := Nat.lt_of_le_of_lt (Nat.div_le_self _ _) hd
  have hp : (1000000000 : Nat) ^ 24 < 1000000000 ^ 60 := by decide +kernel
  have n1 := natB_limbs (Nat.lt_trans l1 hp)
  have n2 := natB_limbs (Nat.lt_trans l2 hp)
  have e : lowR z d = ((decide (z < 0), limbs (z.natAbs / Nat.gcd z.natAbs d)), limbs (d / Nat.gcd z.natAbs d)) := by
    rw [lowR, if_pos ⟨by omega, limbs_len.2 l1, limbs_len.2 l2⟩]
  have hb0 : 0 < d / Nat.gcd z.natAbs d := Nat.div_pos (Nat.le_of_dvd h0 (Nat.gcd_dvd_right _ _)) hg
  have c1 := gcd_red z.natAbs d hg
  refine ⟨rfl, ?_, Nat.gcd z.natAbs d, hg, ?_, ?_⟩
  · rw [e]
    show ratB (decide (z < 0)) (limbs (z.natAbs / Nat.gcd z.natAbs d)) (limbs (d / Nat.gcd z.natAbs d)) = true
    have s1 : shortB (limbs (z.natAbs / Nat.gcd z.natAbs d)) (limbs (d / Nat.gcd z.natAbs d)) = true := by
      rw [shortB, decide_eq_true (limbs_len.2 l1), decide_eq_true (limbs_len.2 l2)]; rfl
    have s2 : (limbs (d / Nat.gcd z.natAbs d)).isEmpty = false := by
      have : limbs (d / Nat.gcd z.natAbs d) ≠ [] := fun h => by have := limbs_nil.1 h; omega
      simpa using this
    have s3 : bigB (decide (z < 0)) (limbs (z.natAbs / Nat.gcd z.natAbs d)) = true := by
      rw [bigB, n1]
      by_cases h : z < 0
      · have hp : 0 < z.natAbs / Nat.gcd z.natAbs d := Nat.div_pos (Nat.le_of_dvd (by omega) (Nat.gcd_dvd_left _ _)) hg
        have : limbs (z.natAbs / Nat.gcd z.natAbs d) ≠ [] := fun h => by have := limbs_nil.1 h; omega
        have : (limbs (z.natAbs / Nat.gcd z.natAbs d)).isEmpty = false := by simpa using this
        rw [this, decide_eq_true h]; rfl
      · rw [decide_eq_false h]; rfl
    rw [ratB_ok s1 s2 s3]
    refine decide_eq_true ?_
    rw [gcdL, n1, n2, natV_limbs, natV_limbs, c1]
    exact limbs_one
  · rw [e]
    show zv (decide (z < 0)) (limbs (z.natAbs / Nat.gcd z.natAbs d)) * _ = z
    have h1 : ((z.natAbs / Nat.gcd z.natAbs d : Nat) : Int) * (Nat.gcd z.natAbs d : Int) = (z.natAbs : Int) := by
      have := Nat.div_mul_cancel (Nat.gcd_dvd_left z.natAbs d)
      exact_mod_cast this
    unfold zv
    rw [val_limbs]
    by_cases h : z < 0
    · rw [decide_eq_true h, if_pos rfl, Int.neg_mul, h1]; omega
    · rw [decide_eq_false h, if_neg (by simp), h1]; omega
  · rw [e]
    show natV (limbs (d / Nat.gcd z.natAbs d)) * _ = d
    rw [natV_limbs]
    exact Nat.div_mul_cancel (Nat.gcd_dvd_right z.natAbs d)
section
variable {Z Y : (Bool × List Int) × List Int} {z y : Int} {d e : Nat}
theorem IsR.pos (h : IsR Z z d) : 0 < natV Z.2 := natV_pos (ratB_den h.2.1) (ratB_pos h.2.1)
theorem IsR.dpos (h : IsR Z z d) : 0 < d := by
  have := IsR.pos h
  obtain ⟨_, _, g, hg, _, he⟩ := h
  rw [← he]; exact Nat.mul_pos this hg
theorem isR_eq (h : IsR Z z d) (k : IsR Y y e) (he : z * (e : Int) = y * (d : Int)) : Z = Y := by
  rw [h.1, k.1]; exact lowR_congr h.dpos k.dpos he
theorem addR_is (h : IsR Z z d) (k : IsR Y y e) : addR Z.1.1 Z.1.2 Z.2 Y.1.1 Y.1.2 Y.2 = lowR (z * e + y * d) (d * e) := by
  have p1 := h.pos
  have p2 := k.pos
  have p3 := h.dpos
  have p4 := k.dpos
  obtain ⟨_, r1, g, hg, hz, hd⟩ := h
  obtain ⟨_, r2, f, hf, hy, he⟩ := k
  rw [addR, r1, r2, zval (ratB_den r1), zval (ratB_den r2)]
  refine lowR_congr (Nat.mul_pos p1 p2) (Nat.mul_pos p3 p4) ?_
  rw [← hz, ← hd, ← hy, ← he]
  simp only [Int.natCast_mul, Int.add_mul]
  congr 1 <;> ac_rfl
theorem subR_is (h : IsR Z z d) (k : IsR Y y e) : subR Z.1.1 Z.1.2 Z.2 Y.1.1 Y.1.2 Y.2 = lowR (z * e - y * d) (d * e) := by
  have p1 := h.pos
  have p2 := k.pos
  have p3 := h.dpos
  have p4 := k.dpos
  obtain ⟨_, r1, g, hg, hz, hd⟩ := h
  obtain ⟨_, r2, f, hf, hy, he⟩ := k
  have hneg : zv (!Y.1.1) Y.1.2 = - zv Y.1.1 Y.1.2 := by unfold zv; cases Y.1.1 <;> simp
  rw [subR, r1, r2, zval (ratB_den r1), zval (ratB_den r2), hneg]
  refine lowR_congr (Nat.mul_pos p1 p2) (Nat.mul_pos p3 p4) ?_
  rw [← hz, ← hd, ← hy, ← he]
  simp only [Int.natCast_mul, Int.add_mul, Int.sub_eq_add_neg, ← Int.neg_mul]
  congr 1 <;> ac_rfl
theorem mulR_is (h : IsR Z z d) (k : IsR Y y e) : mulR Z.1.1 Z.1.2 Z.2 Y.1.1 Y.1.2 Y.2 = lowR (z * y) (d * e) := by
  have p1 := h.pos
  have p2 := k.pos
  have p3 := h.dpos
  have p4 := k.dpos
  obtain ⟨_, r1, g, hg, hz, hd⟩ := h
  obtain ⟨_, r2, f, hf, hy, he⟩ := k
  rw [mulR, r1, r2]
  refine lowR_congr (Nat.mul_pos p1 p2) (Nat.mul_pos p3 p4) ?_
  rw [← hz, ← hd, ← hy, ← he]
  simp only [Int.natCast_mul]
  ac_rfl
theorem IsR.zero (k : IsR Y y e) : zv Y.1.1 Y.1.2 = 0 ↔ y = 0 := by
  obtain ⟨_, _, f, hf, hy, _⟩ := k
  constructor
  · intro h; rw [← hy, h, Int.zero_mul]
  · intro h
    rw [h] at hy
    rcases Int.mul_eq_zero.1 hy with h1 | h1
    · exact h1
    · omega
theorem cmpV_scale {a b : Int} {k : Int} (hk : 0 < k) : cmpV (a * k) (b * k) = cmpV a b := by
  unfold cmpV
  by_cases h1 : a < b
  · rw [if_pos h1, if_pos (Int.mul_lt_mul_of_pos_right h1 hk)]
  · rw [if_neg h1, if_neg (by have := Int.mul_le_mul_of_nonneg_right (show b ≤ a by omega) (show 0 ≤ k by omega); omega)]
    by_cases h2 : b < a
    · rw [if_pos h2, if_pos (Int.mul_lt_mul_of_pos_right h2 hk)]
    · rw [if_neg h2, if_neg (by have := Int.mul_le_mul_of_nonneg_right (show a ≤ b by omega) (show 0 ≤ k by omega); omega)]
theorem signR_is (h : IsR Z z d) : signR Z.1.1 Z.1.2 Z.2 = cmpV z 0 := by
  obtain ⟨_, r1, g, hg, hz, hd⟩ := h
  rw [signR, r1, if_pos rfl, ← hz]
  have hp : (0 : Int) < (g : Int) := by omega
  have := cmpV_scale (a := zv Z.1.1 Z.1.2) (b := 0) hp
  rw [Int.zero_mul] at this
  exact this.symm
theorem sameR_self (Z : (Bool × List Int) × List Int) : sameR Z.1.1 Z.1.2 Z.2 Z.1.1 Z.1.2 Z.2 = true := by simp [sameR]
end
/-! ### a fraction's text -/
theorem no_slash {s : ByteArray} (h : cnt s = 0) : ∀ j (h : j < s.size), s[j] ≠ 47 := fun j hj e => by
  have := cnt_pos hj e; omega
theorem app_at {a b : ByteArray} : (a ++ ⟨#[47]⟩ ++ b).size = a.size + 1 + b.size := by
  rw [ByteArray.size_append, ByteArray.size_append]; rfl
theorem parse_fmtR {s : Bool} {xs ds : List Int} (h : ratB s xs ds = true) : parR (fmtR s xs ds) = ((s, xs), ds) ∧ okRB (fmtR s xs ds) = true := by
  obtain ⟨z1, z2⟩ := parse_fmtZ (ratB_big h)
  obtain ⟨b1, b2⟩ := parse_fmt (ratB_den h)
  have key : headB (fmtR s xs ds) = fmtZ s xs ∧ parseL (denS (fmtR s xs ds)) = ds ∧ parseB (denS (fmtR s xs ds)) = true := by
    by_cases h1 : ds = [1]
    · rw [fmtR_one h h1]
      obtain ⟨c1, c2⟩ := cut_none (no_slash (cnt_fmtZ (ratB_big h)))
      have hd : denS (fmtZ s xs) = ⟨#[49]⟩ := by rw [denS, c2]; rfl
      rw [hd, one_parse.1, one_parse.2, h1]
      exact ⟨c1, rfl, rfl⟩
    · rw [fmtR_two h h1]
      have hn := no_slash (cnt_fmtZ (ratB_big h))
      generalize fmtZ s xs = a at *
      generalize fmtB ds = b at *
      have hs : (a ++ ⟨#[47]⟩ ++ b).size = a.size + 1 + b.size := app_at
      have hp : a.size < (a ++ ⟨#[47]⟩ ++ b).size := by omega
      have hsl : (a ++ (⟨#[47]⟩ : ByteArray)).size = a.size + 1 := by rw [ByteArray.size_append]; rfl
      obtain ⟨c1, c2, c3⟩ := cut_some hp
        (by rw [ByteArray.getElem_append_left (by omega), ByteArray.getElem_append_right (by omega)]; simp only [Nat.sub_self]; rfl)
        (fun j hj hjp => by rw [ByteArray.getElem_append_left (by omega), ByteArray.getElem_append_left hjp]; exact hn j hjp)
      have e1 : (a ++ ⟨#[47]⟩ ++ b).extract 0 a.size = a := by
        apply ByteArray.ext; simp
      have e2 : (a ++ ⟨#[47]⟩ ++ b).extract (a.size + 1) (a ++ ⟨#[47]⟩ ++ b).size = b := by
        apply ByteArray.ext
        apply Array.ext'
        have l1 : (a.data.toList ++ [47]).length = a.size + 1 := by simp
        have l2 : (a ++ ⟨#[47]⟩ ++ b).size = (a.data.toList ++ [47] ++ b.data.toList).length := by rw [hs]; simp; omega
        show ((a ++ ⟨#[47]⟩ ++ b).extract (a.size + 1) (a ++ ⟨#[47]⟩ ++ b).size).data.toList = b.data.toList
        rw [l2]
        simp only [ByteArray.data_extract, ByteArray.data_append, Array.toList_extract, Array.toList_append, List.extract_eq_take_drop]
        rw [← l1, List.drop_left' rfl]
        exact List.take_of_length_le (by simp; omega)
      have hd : denS (a ++ ⟨#[47]⟩ ++ b) = b := by rw [denS, c3, if_pos rfl, c2, e2]
      rw [hd]
      exact ⟨c1.trans e1, b2, b1⟩
  have ho : okRB (fmtR s xs ds) = true := by
    rw [okRB, key.1, key.2.1, key.2.2, z1, z2]
    simp
  exact ⟨by rw [parR, ho, if_pos rfl, key.1, key.2.1, z1], ho⟩
end Go.Proofs.YtnbaookdeijhhaaGreatDoor
