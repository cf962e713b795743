/-
  The texts FmtN, FmtN2, put together; each has its own heading below. No condition of ours.
-/
import Derived.Test.YtnbaookdeijhhaaGreatDoorItoaD
import Derived.Test.YtnbaookdeijhhaaGreatDoorJoinI
import Derived.Test.YtnbaookdeijhhaaGreatDoorPadP
import Derived.Test.YtnbaookdeijhhaaGreatDoorPB
/-
  A natural number's text: what FormatNat answers, and that ParseNat gives it back. Of no program.
-/




namespace Go.Proofs.YtnbaookdeijhhaaGreatDoor
open Go.RowKit
set_option linter.unusedVariables false

/-- one group of nine digits -/
def grp (d : Int) : ByteArray := padB (itoaB d) 9
/-- the groups of a number's text, the first one first, j of them behind it -/
def tx (a : List Int) : Nat → List ByteArray
  | 0 => [itoaB (a.getD (a.length - 1) 0)]
  | j + 1 => tx a j ++ [grp (a.getD (a.length - 2 - j) 0)]
def fmtB (a : List Int) : ByteArray := if natB a then (if a = [] then ⟨#[48]⟩ else joinB (tx a (a.length - 1)) ⟨#[]⟩) else ⟨#[]⟩
/-- the digits, as a list -/
def fmtD : List Int → List UInt8
  | [] => []
  | [d] => Lib.decDigits d.toNat
  | d :: e :: r => fmtD (e :: r) ++ (List.replicate (9 - (Lib.decDigits d.toNat).length) 48 ++ Lib.decDigits d.toNat)
theorem joinE (xs : List ByteArray) (x : ByteArray) : joinL (xs ++ [x]) ⟨#[]⟩ = joinL xs ⟨#[]⟩ ++ x.data.toList := by
  by_cases h : xs = []
  · subst h; rw [List.nil_append, joinL_one, joinL_nil]; rfl
  · rw [joinL_snoc h]; simp
theorem tx_cons (d : Int) (r : List Int) (j : Nat) (h : j + 1 ≤ r.length) : tx (d :: r) j = tx r j := by
  induction j with
  | zero =>
    rw [tx, tx]
    have : (d :: r).getD ((d :: r).length - 1) 0 = r.getD (r.length - 1) 0 := by
      rw [show (d :: r).length - 1 = (r.length - 1) + 1 by rw [List.length_cons]; omega, List.getD_cons_succ]
    rw [this]
  | succ j ih =>
    rw [tx, tx, ih (by omega)]
    have : (d :: r).getD ((d :: r).length - 2 - j) 0 = r.getD (r.length - 2 - j) 0 := by
      rw [show (d :: r).length - 2 - j = (r.length - 2 - j) + 1 by rw [List.length_cons]; omega, List.getD_cons_succ]
    rw [this]
theorem itoaB_dig {d : Int} (h : 0 ≤ d) : (itoaB d).data.toList = Lib.decDigits d.toNat := by
  obtain ⟨n, rfl⟩ : ∃ n : Nat, d = (n : Int) := ⟨d.toNat, by omega⟩
  rw [itoaB_nat]; simp
theorem grp_dig {d : Int} (h : 0 ≤ d) : (grp d).data.toList = List.replicate (9 - (Lib.decDigits d.toNat).length) 48 ++ Lib.decDigits d.toNat := by
  have e := itoaB_dig h
  have es : (itoaB d).size = (Lib.decDigits d.toNat).length := by rw [← e]; rfl
  unfold grp padB padL
  rw [if_neg (by omega), es, e, show ((9 : Int) - ((Lib.decDigits d.toNat).length : Int)).toNat = 9 - (Lib.decDigits d.toNat).length by omega]
theorem fmt_eq {a : List Int} (hl : Limbs a) (h0 : a ≠ []) : joinL (tx a (a.length - 1)) ⟨#[]⟩ = fmtD a := by
  induction a with
  | nil => exact absurd rfl h0
  | cons d r ih =>
    cases r with
    | nil =>
      show joinL [itoaB d] ⟨#[]⟩ = Lib.decDigits d.toNat
      rw [joinL_one]; exact itoaB_dig hl.cons.1.1
    | cons e r =>
      have hi := ih hl.cons.2 (by simp)
      show joinL (tx (d :: e :: r) ((e :: r).length)) ⟨#[]⟩ = _
      rw [show (e :: r).length = ((e :: r).length - 1) + 1 by simp, tx, joinE, tx_cons d (e :: r) _ (by simp), hi]
      rw [fmtD]
      congr 1
      have : (d :: e :: r).getD ((d :: e :: r).length - 2 - ((e :: r).length - 1)) 0 = d := by
        rw [show (d :: e :: r).length - 2 - ((e :: r).length - 1) = 0 by simp]; rfl
      rw [this]; exact grp_dig hl.cons.1.1
end Go.Proofs.YtnbaookdeijhhaaGreatDoor

/-
  ParseNat of FormatNat: plain mathematics. Of no program.
-/

namespace Go.Proofs.YtnbaookdeijhhaaGreatDoor
open Go.RowKit
set_option linter.unusedVariables false

theorem dec_lenP (m : Nat) : ∀ k, k < 10 ^ (m + 1) → (Lib.decDigits k).length ≤ m + 1 := by
  induction m with
  | zero => intro k h; rw [dec_one (by simpa using h)]; simp
  | succ m ih =>
    intro k h
    by_cases h9 : 9 < k
    · rw [dec_more h9, List.length_append, List.length_singleton]
      have := ih (k / 10) (by rw [Nat.pow_succ] at h; omega)
      omega
    · rw [dec_one (by omega)]; simp
theorem dec_len9 {d : Int} (h : 0 ≤ d ∧ d ≤ 999999999) : (Lib.decDigits d.toNat).length ≤ 9 := dec_lenP 8 _ (by omega)
theorem dec_head : ∀ k, 1 ≤ k → ∀ c r, Lib.decDigits k = c :: r → c.toNat ≠ 48 := by
  intro k
  induction k using Nat.strongRecOn with
  | _ k ih =>
    intro h1 c r e
    by_cases h9 : 9 < k
    · rw [dec_more h9] at e
      have hp := dec_pos (k / 10)
      match hd : Lib.decDigits (k / 10), hp with
      | c' :: r', _ =>
        rw [hd, List.cons_append] at e
        injection e with e1 e2
        subst e1
        exact ih (k / 10) (by omega) (by omega) c' r' hd
    · rw [dec_one (by omega)] at e
      injection e with e1 e2
      subst e1
      rw [dgt_nat (by omega)]; omega
theorem fmtD_dig {a : List Int} (hl : Limbs a) : ∀ c ∈ fmtD a, 48 ≤ c.toNat ∧ c.toNat ≤ 57 := by
  induction a with
  | nil => intro c hc; simp [fmtD] at hc
  | cons d r ih =>
    cases r with
    | nil => intro c hc; exact dec_digit _ c hc
    | cons e r =>
      intro c hc
      rw [fmtD, List.mem_append, List.mem_append] at hc
      rcases hc with hc | hc | hc
      · exact ih hl.cons.2 c hc
      · rw [List.mem_replicate] at hc
        rw [hc.2]; decide
      · exact dec_digit _ c hc
theorem fmtD_len {a : List Int} (hl : Limbs a) : (fmtD a).length ≤ 9 * a.length ∧ (a ≠ [] → 0 < (fmtD a).length) := by
  induction a with
  | nil => simp [fmtD]
  | cons d r ih =>
    have h9 := dec_len9 hl.cons.1
    have hp := dec_pos d.toNat
    cases r with
    | nil => rw [fmtD]; simp only [List.length_cons, List.length_nil]; exact ⟨by omega, fun _ => hp⟩
    | cons e r =>
      have hi := ih hl.cons.2
      rw [fmtD]
      simp only [List.length_append, List.length_replicate, List.length_cons] at hi ⊢
      exact ⟨by omega, fun _ => by omega⟩
theorem fmtD_head {a : List Int} (hc : Canon a) (h0 : a ≠ []) : ∀ c r, fmtD a = c :: r → c.toNat ≠ 48 := by
  induction a with
  | nil => exact absurd rfl h0
  | cons d r ih =>
    cases r with
    | nil =>
      intro c t e
      have hd := hc.2 d (by simp)
      have hb := hc.1.cons.1
      exact dec_head d.toNat (by omega) c t e
    | cons e r =>
      intro c t he
      have hcr : Canon (e :: r) := ⟨hc.1.cons.2, fun x hx => hc.2 x (by rw [List.getLast?_cons_of_ne_nil (by simp)]; exact hx)⟩
      have hl := (fmtD_len hcr.1).2 (by simp)
      rw [fmtD] at he
      match hf : fmtD (e :: r), hl with
      | c' :: t', _ =>
        rw [hf, List.cons_append] at he
        injection he with e1 e2
        subst e1
        exact ih hcr (by simp) c' t' hf
theorem dval_zeros (k : Nat) (l : List UInt8) : dval (List.replicate k 48 ++ l) = dval l := by
  induction k with
  | zero => rfl
  | succ k ih => rw [List.replicate_succ, List.cons_append, ← ih]; rfl
theorem numL_dval (s : ByteArray) (a : Nat) : ∀ (k : Nat) (l : List UInt8), l.length = k → (∀ c ∈ l, 48 ≤ c.toNat) → (∀ i (h : i < l.length), dg s (a + i) = (l[i].toNat : Int) - 48) → numL s a k = (dval l : Int) := by
  intro k
  induction k with
  | zero => intro l hl _ _; have := List.eq_nil_of_length_eq_zero hl; subst this; rfl
  | succ k ih =>
    intro l hl hd hg
    rcases List.eq_nil_or_concat l with e | ⟨r, c, e⟩
    · subst e; simp at hl
    · rw [List.concat_eq_append] at e
      subst e
      have hr : r.length = k := by simpa using hl
      have h1 := ih r hr (fun x hx => hd x (List.mem_append_left _ hx)) (fun i h => by
        rw [hg i (by rw [List.length_append]; omega), List.getElem_append_left h])
      have h2 := hg k (by rw [List.length_append, hr]; simp)
      have h3 := hd c (by simp)
      rw [List.getElem_append_right (by omega)] at h2
      simp only [hr, Nat.sub_self, List.getElem_cons_zero] at h2
      rw [numL, h1, h2, dval_snoc]
      omega
theorem parts_fmt (s : ByteArray) : ∀ a : List Int, Limbs a → a ≠ [] → (∀ i (h : i < (fmtD a).length), dg s i = ((fmtD a)[i].toNat : Int) - 48) → parts s (fmtD a).length = a := by
  intro a
  induction a with
  | nil => intro _ h; exact absurd rfl h
  | cons d r ih =>
    intro hl _ hg
    have h9 := dec_len9 hl.cons.1
    have hp := dec_pos d.toNat
    have hd0 := hl.cons.1.1
    cases r with
    | nil =>
      rw [fmtD] at hg ⊢
      rw [parts_pos s hp, show (Lib.decDigits d.toNat).length - 9 = 0 by omega, parts_zero]
      congr 1
      rw [numL_dval s 0 _ (Lib.decDigits d.toNat) (by omega) (fun c hc => (dec_digit _ c hc).1) (fun i h => by rw [Nat.zero_add]; exact hg i h), dval_dec]
      omega
    | cons e r =>
      have hM : (fmtD (d :: e :: r)).length = (fmtD (e :: r)).length + 9 := by
        rw [fmtD]; simp only [List.length_append, List.length_replicate]; omega
      have hi := ih hl.cons.2 (by simp) (fun i h => by
        rw [hg i (by omega)]
        congr 3
        simp only [fmtD]
        rw [List.getElem_append_left h])
      rw [hM, parts_pos s (by omega), Nat.add_sub_cancel, hi]
      congr 1
      rw [show (fmtD (e :: r)).length + 9 - (fmtD (e :: r)).length = 9 by omega]
      rw [numL_dval s _ 9 (List.replicate (9 - (Lib.decDigits d.toNat).length) 48 ++ Lib.decDigits d.toNat) (by rw [List.length_append, List.length_replicate]; omega) (fun c hc => by
        rw [List.mem_append, List.mem_replicate] at hc
        rcases hc with hc | hc
        · rw [hc.2]; decide
        · exact (dec_digit _ c hc).1) (fun i h => by
        rw [List.length_append, List.length_replicate] at h
        rw [hg _ (by omega)]
        congr 3
        simp only [fmtD]
        rw [List.getElem_append_right (by omega)]
        congr 1; omega), dval_zeros, dval_dec]
      omega
theorem dg_list {s : ByteArray} {L : List UInt8} (h : s.data.toList = L) (i : Nat) (hi : i < L.length) : dg s i = (L[i].toNat : Int) - 48 := by
  subst h
  have hs : i < s.size := by simpa using hi
  rw [dg_in hs]; rfl
theorem fmtB_list {a : List Int} (hb : natB a = true) (h0 : a ≠ []) : (fmtB a).data.toList = fmtD a := by
  rw [fmtB, if_pos hb, if_neg h0, joinB, fmt_eq ((natB_iff a).1 hb).1.1 h0]
theorem zero_parse : parseB ⟨#[48]⟩ = true ∧ parseL ⟨#[48]⟩ = [] := by
  have hb : parseB ⟨#[48]⟩ = true := by
    have h1 : digsB ⟨#[48]⟩ = true := by
      refine digsB_true (by decide) ?_
      intro i hi
      have : i = 0 := by have : i < 1 := hi; omega
      subst this; exact (by decide : digB (48 : UInt8) = true)
    rw [parseB, h1]; rfl
  refine ⟨hb, ?_⟩
  rw [parseL, hb]
  have : parts ⟨#[48]⟩ (ByteArray.size ⟨#[48]⟩) = [0] := by
    show parts ⟨#[48]⟩ 1 = [0]
    rw [parts_pos _ (by omega), show 1 - 9 = 0 by rfl, parts_zero]
    rfl
  rw [if_pos rfl, this]; rfl
theorem fmtB_size {a : List Int} (hb : natB a = true) : (fmtB a).size ≤ 540 := by
  by_cases h0 : a = []
  · subst h0; rw [fmtB, hb]; show 1 ≤ 540; omega
  · obtain ⟨hc, hl⟩ := (natB_iff a).1 hb
    have := (fmtD_len hc.1).1
    have e : (fmtB a).size = (fmtD a).length := by rw [← fmtB_list hb h0]; simp
    omega
/-- FormatNat's text is read back -/
theorem parse_fmt {a : List Int} (hb : natB a = true) : parseB (fmtB a) = true ∧ parseL (fmtB a) = a := by
  by_cases h0 : a = []
  · subst h0
    have : fmtB [] = ⟨#[48]⟩ := by rw [fmtB, hb]; rfl
    rw [this]; exact zero_parse
  · obtain ⟨hc, hl⟩ := (natB_iff a).1 hb
    have hs := fmtB_list hb h0
    have hz := fmtB_size hb
    have e : (fmtB a).size = (fmtD a).length := by rw [← hs]; simp
    obtain ⟨l1, l2⟩ := fmtD_len hc.1
    have l3 := l2 h0
    generalize fmtB a = s at *
    have hdig : digsB s = true := by
      refine digsB_true (by omega) fun i hi => ?_
      have := fmtD_dig hc.1 s[i] (by
        rw [← hs]
        show s.data[i] ∈ _
        simp)
      simp only [digB, decide_eq_true_eq]; exact this
    have hlead : dg s 0 ≠ 0 := by
      match hf : fmtD a, l3 with
      | c :: t, _ =>
        have h1 := fmtD_head hc h0 c t hf
        have h2 := dg_list (hs.trans hf) 0 (by simp)
        rw [List.getElem_cons_zero] at h2
        omega
    have hpb : parseB s = true := by rw [parseB, hdig]; simp; omega
    refine ⟨hpb, ?_⟩
    rw [parseL, hpb, if_pos rfl, e, parts_fmt s a hc.1 h0 (fun i h => dg_list hs i h)]
    have := trim_eq hc.1 (n := natV a) (natV_val hb).symm
    rw [this]; exact limbs_natV hb
end Go.Proofs.YtnbaookdeijhhaaGreatDoor
