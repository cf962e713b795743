/-
  The texts FmtN, FmtN2, FmtI, PadC, FmtC, put together; each has its own heading below. No condition of ours.
-/
import Derived.Test.YtnbaookdeijhhaaGreatDoorItoaD
import Derived.Test.YtnbaookdeijhhaaGreatDoorSJ
import Derived.Test.YtnbaookdeijhhaaGreatDoorPB
import Derived.Test.YtnbaookdeijhhaaGreatDoorShelf
import Derived.WalkSmall
import Derived.Lib.ItoaMem
import Derived.Deep.RegionWith
import Derived.IntWalk
import Derived.Test.YtnbaookdeijhhaaGreatDoorRA
import Derived.Test.YtnbaookdeijhhaaGreatDoorIA
/-
  A natural number's text: what FormatNat answers, and that ParseNat gives it back. Of no program.
-/




namespace Go.Proofs.YtnbaookdeijhhaaGreatDoor
open Go.RowKit
set_option linter.unusedVariables false

/-- one group of nine digits -/
def grp (d : Int) : ByteArray := padB (itoaB d) 9
/-- the groups of a number's text, the first one first, j of them behind it -/
def tx (a : List Int) : Nat → List ByteArray
  | 0 => [itoaB (a.getD (a.length - 1) 0)]
  | j + 1 => tx a j ++ [grp (a.getD (a.length - 2 - j) 0)]
def fmtB (a : List Int) : ByteArray := if natB a then (if a = [] then ⟨#[48]⟩ else joinB (tx a (a.length - 1)) ⟨#[]⟩) else ⟨#[]⟩
/-- the digits, as a list -/
def fmtD : List Int → List UInt8
  | [] => []
  | [d] => Lib.decDigits d.toNat
  | d :: e :: r => fmtD (e :: r) ++ (List.replicate (9 - (Lib.decDigits d.toNat).length) 48 ++ Lib.decDigits d.toNat)
theorem joinE (xs : List ByteArray) (x : ByteArray) : joinL (xs ++ [x]) ⟨#[]⟩ = joinL xs ⟨#[]⟩ ++ x.data.toList := by
  by_cases h : xs = []
  · subst h; rw [List.nil_append, joinL_one, joinL_nil]; rfl
  · rw [joinL_snoc h]; simp
theorem tx_cons (d : Int) (r : List Int) (j : Nat) (h : j + 1 ≤ r.length) : tx (d :: r) j = tx r j := by
  induction j with
  | zero =>
    rw [tx, tx]
    have : (d :: r).getD ((d :: r).length - 1) 0 = r.getD (r.length - 1) 0 := by
      rw [show (d :: r).length - 1 = (r.length - 1) + 1 by rw [List.length_cons]; omega, List.getD_cons_succ]
    rw [this]
  | succ j ih =>
    rw [tx, tx, ih (by omega)]
    have : (d :: r).getD ((d :: r).length - 2 - j) 0 = r.getD (r.length - 2 - j) 0 := by
      rw [show (d :: r).length - 2 - j = (r.length - 2 - j) + 1 by rw [List.length_cons]; omega, List.getD_cons_succ]
    rw [this]
theorem itoaB_dig {d : Int} (h : 0 ≤ d) : (itoaB d).data.toList = Lib.decDigits d.toNat := by
  obtain ⟨n, rfl⟩ : ∃ n : Nat, d = (n : Int) := ⟨d.toNat, by omega⟩
  rw [itoaB_nat]; simp
theorem grp_dig {d : Int} (h : 0 ≤ d) : (grp d).data.toList = List.replicate (9 - (Lib.decDigits d.toNat).length) 48 ++ Lib.decDigits d.toNat := by
  have e := itoaB_dig h
  have es : (itoaB d).size = (Lib.decDigits d.toNat).length := by rw [← e]; rfl
  unfold grp padB padL
  rw [if_neg (by omega), es, e, show ((9 : Int) - ((Lib.decDigits d.toNat).length : Int)).toNat = 9 - (Lib.decDigits d.toNat).length by omega]
theorem fmt_eq {a : List Int} (hl : Limbs a) (h0 : a ≠ []) : joinL (tx a (a.length - 1)) ⟨#[]⟩ = fmtD a := by
  induction a with
  | nil => exact absurd rfl h0
  | cons d r ih =>
    cases r with
    | nil =>
      show joinL [itoaB d] ⟨#[]⟩ = Lib.decDigits d.toNat
      rw [joinL_one]; exact itoaB_dig hl.cons.1.1
    | cons e r =>
      have hi := ih hl.cons.2 (by simp)
      show joinL (tx (d :: e :: r) ((e :: r).length)) ⟨#[]⟩ = _
      rw [show (e :: r).length = ((e :: r).length - 1) + 1 by simp, tx, joinE, tx_cons d (e :: r) _ (by simp), hi]
      rw [fmtD]
      congr 1
      have : (d :: e :: r).getD ((d :: e :: r).length - 2 - ((e :: r).length - 1)) 0 = d := by
        rw [show (d :: e :: r).length - 2 - ((e :: r).length - 1) = 0 by simp]; rfl
      rw [this]; exact grp_dig hl.cons.1.1
end Go.Proofs.YtnbaookdeijhhaaGreatDoor

/-
  ParseNat of FormatNat: plain mathematics. Of no program.
-/

namespace Go.Proofs.YtnbaookdeijhhaaGreatDoor
open Go.RowKit
set_option linter.unusedVariables false

theorem dec_lenP (m : Nat) : ∀ k, k < 10 ^ (m + 1) → (Lib.decDigits k).length ≤ m + 1 := by
  induction m with
  | zero => intro k h; rw [dec_one (by simpa using h)]; simp
  | succ m ih =>
    intro k h
    by_cases h9 : 9 < k
    · rw [dec_more h9, List.length_append, List.length_singleton]
      have := ih (k / 10) (by rw [Nat.pow_succ] at h; omega)
      omega
    · rw [dec_one (by omega)]; simp
theorem dec_len9 {d : Int} (h : 0 ≤ d ∧ d ≤ 999999999) : (Lib.decDigits d.toNat).length ≤ 9 := dec_lenP 8 _ (by omega)
theorem dec_head : ∀ k, 1 ≤ k → ∀ c r, Lib.decDigits k = c :: r → c.toNat ≠ 48 := by
  intro k
  induction k using Nat.strongRecOn with
  | _ k ih =>
    intro h1 c r e
    by_cases h9 : 9 < k
    · rw [dec_more h9] at e
      have hp := dec_pos (k / 10)
      match hd : Lib.decDigits (k / 10), hp with
      | c' :: r', _ =>
        rw [hd, List.cons_append] at e
        injection e with e1 e2
        subst e1
        exact ih (k / 10) (by omega) (by omega) c' r' hd
    · rw [dec_one (by omega)] at e
      injection e with e1 e2
      subst e1
      rw [dgt_nat (by omega)]; omega
theorem fmtD_dig {a : List Int} (hl : Limbs a) : ∀ c ∈ fmtD a, 48 ≤ c.toNat ∧ c.toNat ≤ 57 := by
  induction a with
  | nil => intro c hc; simp [fmtD] at hc
  | cons d r ih =>
    cases r with
    | nil => intro c hc; exact dec_digit _ c hc
    | cons e r =>
      intro c hc
      rw [fmtD, List.mem_append, List.mem_append] at hc
      rcases hc with hc | hc | hc
      · exact ih hl.cons.2 c hc
      · rw [List.mem_replicate] at hc
        rw [hc.2]; decide
      · exact dec_digit _ c hc
theorem fmtD_len {a : List Int} (hl : Limbs a) : (fmtD a).length ≤ 9 * a.length ∧ (a ≠ [] → 0 < (fmtD a).length) := by
  induction a with
  | nil => simp [fmtD]
  | cons d r ih =>
    have h9 := dec_len9 hl.cons.1
    have hp := dec_pos d.toNat
    cases r with
    | nil => rw [fmtD]; simp only [List.length_cons, List.length_nil]; exact ⟨by omega, fun _ => hp⟩
    | cons e r =>
      have hi := ih hl.cons.2
      rw [fmtD]
      simp only [List.length_append, List.length_replicate, List.length_cons] at hi ⊢
      exact ⟨by omega, fun _ => by omega⟩
theorem fmtD_head {a : List Int} (hc : Canon a) (h0 : a ≠ []) : ∀ c r, fmtD a = c :: r → c.toNat ≠ 48 := by
  induction a with
  | nil => exact absurd rfl h0
  | cons d r ih =>
    cases r with
    | nil =>
      intro c t e
      have hd := hc.2 d (by simp)
      have hb := hc.1.cons.1
      exact dec_head d.toNat (by omega) c t e
    | cons e r =>
      intro c t he
      have hcr : Canon (e :: r) := ⟨hc.1.cons.2, fun x hx => hc.2 x (by rw [List.getLast?_cons_of_ne_nil (by simp)]; exact hx)⟩
      have hl := (fmtD_len hcr.1).2 (by simp)
      rw [fmtD] at he
      match hf : fmtD (e :: r), hl with
      | c' :: t', _ =>
        rw [hf, List.cons_append] at he
        injection he with e1 e2
        subst e1
        exact ih hcr (by simp) c' t' hf
theorem dval_zeros (k : Nat) (l : List UInt8) : dval (List.replicate k 48 ++ l) = dval l := by
  induction k with
  | zero => rfl
  | succ k ih => rw [List.replicate_succ, List.cons_append, ← ih]; rfl
theorem numL_dval (s : ByteArray) (a : Nat) : ∀ (k : Nat) (l : List UInt8), l.length = k → (∀ c ∈ l, 48 ≤ c.toNat) → (∀ i (h : i < l.length), dg s (a + i) = (l[i].toNat : Int) - 48) → numL s a k = (dval l : Int) := by
  intro k
  induction k with
  | zero => intro l hl _ _; have := List.eq_nil_of_length_eq_zero hl; subst this; rfl
  | succ k ih =>
    intro l hl hd hg
    rcases List.eq_nil_or_concat l with e | ⟨r, c, e⟩
    · subst e; simp at hl
    · rw [List.concat_eq_append] at e
      subst e
      have hr : r.length = k := by simpa using hl
      have h1 := ih r hr (fun x hx => hd x (List.mem_append_left _ hx)) (fun i h => by
        rw [hg i (by rw [List.length_append]; omega), List.getElem_append_left h])
      have h2 := hg k (by rw [List.length_append, hr]; simp)
      have h3 := hd c (by simp)
      rw [List.getElem_append_right (by omega)] at h2
      simp only [hr, Nat.sub_self, List.getElem_cons_zero] at h2
      rw [numL, h1, h2, dval_snoc]
      omega
theorem parts_fmt (s : ByteArray) : ∀ a : List Int, Limbs a → a ≠ [] → (∀ i (h : i < (fmtD a).length), dg s i = ((fmtD a)[i].toNat : Int) - 48) → parts s (fmtD a).length = a := by
  intro a
  induction a with
  | nil => intro _ h; exact absurd rfl h
  | cons d r ih =>
    intro hl _ hg
    have h9 := dec_len9 hl.cons.1
    have hp := dec_pos d.toNat
    have hd0 := hl.cons.1.1
    cases r with
    | nil =>
      rw [fmtD] at hg ⊢
      rw [parts_pos s hp, show (Lib.decDigits d.toNat).length - 9 = 0 by omega, parts_zero]
      congr 1
      rw [numL_dval s 0 _ (Lib.decDigits d.toNat) (by omega) (fun c hc => (dec_digit _ c hc).1) (fun i h => by rw [Nat.zero_add]; exact hg i h), dval_dec]
      omega
    | cons e r =>
      have hM : (fmtD (d :: e :: r)).length = (fmtD (e :: r)).length + 9 := by
        rw [fmtD]; simp only [List.length_append, List.length_replicate]; omega
      have hi := ih hl.cons.2 (by simp) (fun i h => by
        rw [hg i (by omega)]
        congr 3
        simp only [fmtD]
        rw [List.getElem_append_left h])
      rw [hM, parts_pos s (by omega), Nat.add_sub_cancel, hi]
      congr 1
      rw [show (fmtD (e :: r)).length + 9 - (fmtD (e :: r)).length = 9 by omega]
      rw [numL_dval s _ 9 (List.replicate (9 - (Lib.decDigits d.toNat).length) 48 ++ Lib.decDigits d.toNat) (by rw [List.length_append, List.length_replicate]; omega) (fun c hc => by
        rw [List.mem_append, List.mem_replicate] at hc
        rcases hc with hc | hc
        · rw [hc.2]; decide
        · exact (dec_digit _ c hc).1) (fun i h => by
        rw [List.length_append, List.length_replicate] at h
        rw [hg _ (by omega)]
        congr 3
        simp only [fmtD]
        rw [List.getElem_append_right (by omega)]
        congr 1; omega), dval_zeros, dval_dec]
      omega
theorem dg_list {s : ByteArray} {L : List UInt8} (h : s.data.toList = L) (i : Nat) (hi : i < L.length) : dg s i = (L[i].toNat : Int) - 48 := by
  subst h
  have hs : i < s.size := by simpa using hi
  rw [dg_in hs]; rfl
theorem fmtB_list {a : List Int} (hb : natB a = true) (h0 : a ≠ []) : (fmtB a).data.toList = fmtD a := by
  rw [fmtB, if_pos hb, if_neg h0, joinB, fmt_eq ((natB_iff a).1 hb).1.1 h0]
theorem zero_parse : parseB ⟨#[48]⟩ = true ∧ parseL ⟨#[48]⟩ = [] := by
  have hb : parseB ⟨#[48]⟩ = true := by
    have h1 : digsB ⟨#[48]⟩ = true := by
      refine digsB_true (by decide) ?_
      intro i hi
      have : i = 0 := by have : i < 1 := hi; omega
      subst this; exact (by decide : digB (48 : UInt8) = true)
    rw [parseB, h1]; rfl
  refine ⟨hb, ?_⟩
  rw [parseL, hb]
  have : parts ⟨#[48]⟩ (ByteArray.size ⟨#[48]⟩) = [0] := by
    show parts ⟨#[48]⟩ 1 = [0]
    rw [parts_pos _ (by omega), show 1 - 9 = 0 by rfl, parts_zero]
    rfl
  rw [if_pos rfl, this]; rfl
theorem fmtB_size {a : List Int} (hb : natB a = true) : (fmtB a).size ≤ 540 := by
  by_cases h0 : a = []
  · subst h0; rw [fmtB, hb]; show 1 ≤ 540; omega
  · obtain ⟨hc, hl⟩ := (natB_iff a).1 hb
    have := (fmtD_len hc.1).1
    have e : (fmtB a).size = (fmtD a).length := by rw [← fmtB_list hb h0]; simp
    omega
/-- FormatNat's text is read back -/
theorem parse_fmt {a : List Int} (hb : natB a = true) : parseB (fmtB a) = true ∧ parseL (fmtB a) = a := by
  by_cases h0 : a = []
  · subst h0
    have : fmtB [] = ⟨#[48]⟩ := by rw [fmtB, hb]; rfl
    rw [this]; exact zero_parse
  · obtain ⟨hc, hl⟩ := (natB_iff a).1 hb
    have hs := fmtB_list hb h0
    have hz := fmtB_size hb
    have e : (fmtB a).size = (fmtD a).length := by rw [← hs]; simp
    obtain ⟨l1, l2⟩ := fmtD_len hc.1
    have l3 := l2 h0
    generalize fmtB a = s at *
    have hdig : digsB s = true := by
      refine digsB_true (by omega) fun i hi => ?_
      have := fmtD_dig hc.1 s[i] (by
        rw [← hs]
        show s.data[i] ∈ _
        simp)
      simp only [digB, decide_eq_true_eq]; exact this
    have hlead : dg s 0 ≠ 0 := by
      match hf : fmtD a, l3 with
      | c :: t, _ =>
        have h1 := fmtD_head hc h0 c t hf
        have h2 := dg_list (hs.trans hf) 0 (by simp)
        rw [List.getElem_cons_zero] at h2
        omega
    have hpb : parseB s = true := by rw [parseB, hdig]; simp; omega
    refine ⟨hpb, ?_⟩
    rw [parseL, hpb, if_pos rfl, e, parts_fmt s a hc.1 h0 (fun i h => dg_list hs i h)]
    have := trim_eq hc.1 (n := natV a) (natV_val hb).symm
    rw [this]; exact limbs_natV hb
end Go.Proofs.YtnbaookdeijhhaaGreatDoor

/-
  What FormatInt answers, of the program and of the reference: walks (contracts) over their translation.
-/






namespace Go.Proofs.YtnbaookdeijhhaaGreatDoor
open Go.RowKit
set_option linter.unusedVariables false
set_option maxRecDepth 100000

/-! ### the program's: the library's Itoa, over its table of powers -/
def PowTab (w : World) : Prop := Lib.TabIs Tryz.prog w "internal/strconv.uint64pow10" .u64 Lib.pow10Tab
theorem Tryz.gPow : Tryz.prog.globalNamed "internal/strconv.uint64pow10" = some 3 := by kernel_rfl
theorem Tryz.tPow : (Tryz.prog.globals[3]?).map (·.type) = some 212 := by kernel_rfl
theorem PowTab.below {B : Nat} {w w' : World} (h : PowTab w) (hb : Below B w w') (hB : 3 < B) : PowTab w' := var?_below hb Tryz.gPow hB h
theorem PowTab.lt {w : World} (h : PowTab w) : 3 < w.heap.size := by
  have := World.var?_cell Tryz.gPow h 0
  exact World.block_lt_of_cell? w ⟨3, 0, none⟩ (u := .int .u64 1) (by rw [this]; rfl)
theorem below_grow (w : World) (k : Nat) (os : Array Obj) : Below w.heap.size w (Go.Sort.grow (w.drewN k) os) :=
  ⟨rfl, rfl, rfl, by simp [Go.Sort.grow], fun i hi => by simp [Go.Sort.grow, Array.getElem?_append, hi]⟩
theorem impl_FormatInt (n : Int) (w : World) (h : (Lit.int .i64 n).wf = true) (hT : PowTab w) :
    Calls Tryz.prog 62 #[.int .i64 n] w fun e w' => e = .returned (.string (itoaB n)) ∧ Below w.heap.size w w' := by
  obtain ⟨h1, h2⟩ := bounds_i64 h
  have HC := Tryz.strconv_Itoa n h1 h2 w hT
  go_enter Tryz.func62, Tryz.ntmps62
  go_wp2_with fail
  refine HC.mono ?_
  rintro e w1 ⟨rfl, k, os, rfl⟩
  have hb := below_grow w k os
  go_wp2
  go_ret
  exact ⟨rfl, hb⟩
end Go.Proofs.YtnbaookdeijhhaaGreatDoor

/-
  What PadZeros answers, of the program and of the reference.
-/

namespace Go.Proofs.YtnbaookdeijhhaaGreatDoor
open Go.RowKit
set_option linter.unusedVariables false

set_option maxHeartbeats 400000 in
theorem impl_PadZeros (s : ByteArray) (n : Int) (w : World) (hs : s.size ≤ 1048576) :
    Calls Tryz.prog 94 #[.string s, .int .i64 n] w fun e w' => e = .returned (.string (padB s n)) ∧ Below w.heap.size w w' := by
  by_cases h1 : n ≤ s.size
  · have HB : Hid (padB s n = s) := pad_same (.inl h1)
    go_enter Tryz.func94, Tryz.ntmps94
    go_wp2
    go_ret
    exact ⟨ret_string HB.out.symm, Below.refl _ _⟩
  · by_cases h2 : 2000 < n
    · have HB : Hid (padB s n = s) := pad_same (.inr h2)
      go_enter Tryz.func94, Tryz.ntmps94
      go_wp2
      go_ret
      exact ⟨ret_string HB.out.symm, Below.refl _ _⟩
    · obtain ⟨k, hk⟩ : ∃ k : Nat, (k : Int) = n - s.size := ⟨(n - s.size).toNat, by omega⟩
      have hk2 : k ≤ 2000 := by omega
      have hR := Tryz.strings_Repeat ⟨#[48]⟩ k w (by omega) (by show 1 * k ≤ _; omega)
      have HB : Hid (padB s n = joinB [⟨(Lib.repeatL (ByteArray.mk #[48]).data.toList k).toArray⟩, s] ⟨#[]⟩) := by
        show _ = _
        unfold padB joinB joinL padL
        rw [if_neg (by omega), show (n - s.size).toNat = k by omega]
        show _ = (⟨(Lib.join [Lib.repeatL [48] k, s.data.toList] []).toArray⟩ : ByteArray)
        rw [repeat_zero]
        simp [Lib.join, List.intercalate]
      have hzs : (⟨(Lib.repeatL (ByteArray.mk #[48]).data.toList k).toArray⟩ : ByteArray).size = k := by
        show (Lib.repeatL [48] k).toArray.size = k
        rw [repeat_zero]; simp
      generalize (⟨(Lib.repeatL (ByteArray.mk #[48]).data.toList k).toArray⟩ : ByteArray) = z at hR HB hzs
      have hlen : Hid ((joinL [z, s] ⟨#[]⟩).length ≤ 140737488355328) := by
        have := joinL_len [z, s] ⟨#[]⟩
        simp only [sumS, List.map_cons, List.map_nil, List.sum_cons, List.sum_nil, List.length_cons, List.length_nil] at this
        have h0 : (ByteArray.mk #[]).size = 0 := rfl
        rw [h0] at this
        show _ ≤ _
        omega
      have h1' : decide (n ≤ (s.size : Int)) = false := decide_eq_false h1
      have h2' : decide (2000 < n) = false := decide_eq_false h2
      have h1l : (s.size : Int) < n := by omega
      have h2l : n ≤ 2000 := by omega
      rw [hk] at hR
      clear hk hzs h1 h2
      go_enter Tryz.func94, Tryz.ntmps94
      go_wp2_with fail
      refine hR.mono ?_
      rintro e w1 ⟨rfl, hb1⟩
      clear hR
      have hJ := joinWith_any w1.heap.size 2 2 [z, s] ⟨#[]⟩ (w1.alloc (.cells #[.string z, .string s] 9)) rfl (Nat.le_refl _)
        (fun j x hj => by
          rw [Nat.zero_add, World.cell?_alloc_mark]
          match j, hj with
          | 0, hj => simp at hj; simp [hj]
          | 1, hj => simp at hj; simp [hj])
        (by simp) (by omega) hlen.out
      go_wp2_with fail
      refine hJ.mono ?_
      rintro e w2 ⟨rfl, hb2⟩
      clear hJ
      go_wp2
      go_ret
      exact ⟨ret_string HB.out.symm, (hb1.alloc hb1.size _).trans (hb2.mono (by simp; have := hb1.size; omega))⟩
end Go.Proofs.YtnbaookdeijhhaaGreatDoor

/-
  FormatNat, of the reference and of the program: contracts.
-/





namespace Go.Proofs.YtnbaookdeijhhaaGreatDoor
open Go.RowKit
set_option linter.unusedVariables false

theorem fmt_no {a : List Int} (h : natB a = false) : fmtB a = ⟨#[]⟩ := by rw [fmtB, h]; rfl
theorem fmt_nil : fmtB [] = ⟨#[48]⟩ := by
  have : natB [] = true := rfl
  rw [fmtB, this]; rfl
theorem fmt_yes {a : List Int} (h : natB a = true) (h0 : a ≠ []) : fmtB a = joinB (tx a (a.length - 1)) ⟨#[]⟩ := by rw [fmtB, if_pos h, if_neg h0]
theorem limb_wf {d : Int} (h : 0 ≤ d ∧ d ≤ 999999999) : (Lit.int .i64 d).wf = true := WalkArith.wf_i64 ⟨by omega, by omega⟩
theorem itoaB_small {d : Int} (h : 0 ≤ d ∧ d ≤ 999999999) : (itoaB d).size ≤ 1048576 := by
  have e := itoaB_dig h.1
  have es : (itoaB d).size = (Lib.decDigits d.toNat).length := by rw [← e]; simp
  have := dec_len19 (k := d.toNat) (by omega)
  omega
theorem getD_b {a : List Int} (h : Limbs a) (i : Nat) : 0 ≤ a.getD i 0 ∧ a.getD i 0 ≤ 999999999 := by
  by_cases hi : i < a.length
  · rw [getD_in hi]; exact h _ (List.getElem_mem _)
  · rw [getD_out (by omega)]; omega
theorem grp_len {d : Int} (h : 0 ≤ d ∧ d ≤ 999999999) : (grp d).data.toList.length ≤ 9 := by
  have := dec_len9 h
  rw [grp_dig h.1, List.length_append, List.length_replicate]; omega
theorem tx_size {a : List Int} (h : Limbs a) (j : Nat) : (joinL (tx a j) ⟨#[]⟩).length ≤ 9 + 9 * j := by
  induction j with
  | zero =>
    rw [tx, joinL_one, itoaB_dig (getD_b h _).1]
    have := dec_len9 (getD_b h (a.length - 1))
    omega
  | succ j ih =>
    rw [tx, joinE, List.length_append]
    have := grp_len (getD_b h (a.length - 2 - j))
    omega
theorem tx_len (a : List Int) (j : Nat) : (tx a j).length = j + 1 := by
  induction j with
  | zero => rfl
  | succ j ih => rw [tx, List.length_append, ih]; rfl
set_option maxRecDepth 100000 in
set_option maxHeartbeats 3200000 in
theorem impl_FormatNat (w : World) (B : Nat) (hB : B ≤ w.heap.size) (A0 : Option Addr) (n0 c0 : Nat) (xs0 : List Int) (R0 : RdI w B A0 n0 xs0) (hT : PowTab w) :
    Calls Tryz.prog 46 #[.slice A0 n0 c0] w fun e w' => e = .returned (.string (fmtB xs0)) ∧ Below w.heap.size w w' := by
  have H0 := hide (impl_NatOk w B hB A0 n0 c0 xs0 R0)
  by_cases h0 : natB xs0 = true
  · obtain ⟨hc, hl⟩ := (natB_iff xs0).1 h0
    obtain ⟨hn, hx, _, _⟩ := R0
    by_cases hz : n0 = 0
    · have HE : Hid (fmtB xs0 = ⟨#[48]⟩) := by
        have : xs0 = [] := List.eq_nil_of_length_eq_zero (by omega)
        subst this; exact fmt_nil
      subst hz
      clear hx hc
      go_enter Tryz.func46, Tryz.ntmps46
      go_wp2_with fail
      refine H0.out.mono ?_
      rintro e w' ⟨rfl, rfl⟩
      go_wp2_with fail
      go_ret
      exact ⟨ret_string HE.out.symm, Below.refl _ _⟩
    · have hz' : ((n0 : Int) == 0) = false := by simp; omega
      have HY := hide (fmt_yes h0 (fun e => by subst e; simp at hn; omega))
      have hlx := hc.1
      obtain ⟨ad, hA, hab, hce⟩ := hx.int (k := n0 - 1) (by omega)
      have htop := hlx xs0[n0 - 1] (List.getElem_mem _)
      have HTX : Hid (tx xs0 0 = [itoaB xs0[n0 - 1]]) := by
        show _ = _
        have e : xs0.getD (xs0.length - 1) 0 = xs0[n0 - 1] := by
          have h2 : xs0.length - 1 = n0 - 1 := by omega
          rw [h2]; exact getD_in (by omega)
        rw [tx, e]
      have HF := hide (impl_FormatInt xs0[n0 - 1] w (limb_wf htop) hT)
      have hn0 : n0 ≤ 60 := by omega
      generalize xs0[n0 - 1] = top at *
      have HX := hide hx
      have HL := hide hlx
      have HPT := hide hT
      clear hc hx hlx hT
      subst hA
      go_enter Tryz.func46, Tryz.ntmps46
      go_wp2_with fail
      refine H0.out.mono ?_
      rintro e w' ⟨rfl, rfl⟩
      go_wp2_with fail
      refine HF.out.mono ?_
      rintro e w1 ⟨rfl, hb1⟩
      have hown0 := own_lower (own_one w1 9 (.string (itoaB top))) hb1.size
      have hb2 := hb1.alloc hb1.size (.cells #[.string (itoaB top)] 9)
      have HO : Hid ((w1.alloc (.cells #[.string (itoaB top)] 9)).ownsRow w.heap.size 9 1 (.slice (some ⟨w1.heap.size, 0, none⟩) 1 1) (0 + 1) (sv (tx xs0 0))) := by
        rw [HTX.out]; exact hown0
      clear HF H0 hce HTX hown0 hb1
      go_wp2_with fail
      go_loopw [4, 5] (fun v i wr => ∃ j : Nat, j ≤ n0 - 1 ∧ wr.ownsRow w.heap.size 9 1 v (j + 1) (sv (tx xs0 j)) ∧ i = .int .i64 ((n0 : Int) - 2 - (j : Int)) ∧ Below w.heap.size w wr) (fun _ i _ => (intOf i + 1).toNat)
      case atStart => exact ⟨0, Nat.zero_le _, HO.out, by congr 1; omega, hb2⟩
      case round =>
        clear hb2 HO
        obtain ⟨j, hj, hown, rfl, hbl⟩ := hrel
        have hbs := hbl.size
        by_cases hlt : j < n0 - 1
        · obtain ⟨ii, hii⟩ : ∃ ii : Nat, (ii : Int) = (n0 : Int) - 2 - (j : Int) := ⟨n0 - 2 - j, by omega⟩
          obtain ⟨ad', hA, hab', hce⟩ := (HX.out.below (hbl.mono hB)).int (k := ii) (by omega)
          have hdb := HL.out xs0[ii] (List.getElem_mem _)
          have hgd : xs0.getD (xs0.length - 2 - j) 0 = xs0[ii] := by
            rw [show xs0.length - 2 - j = ii by omega]; exact getD_in (by omega)
          have HS : Hid (sv (tx xs0 j) ++ [.string (grp xs0[ii])] = sv (tx xs0 (j + 1))) := by
            show _ = _
            rw [tx, hgd]; simp [sv]
          have HF := hide (impl_FormatInt xs0[ii] wr (limb_wf hdb) (HPT.out.below hbl (HPT.out.lt)))
          have HP := hide (fun w2 : World => impl_PadZeros (itoaB xs0[ii]) 9 w2 (itoaB_small hdb))
          have HPE : Hid (padB (itoaB xs0[ii]) 9 = grp xs0[ii]) := rfl
          generalize grp xs0[ii] = gb at *
          generalize xs0[ii] = d at *
          injection hA with hA
          subst hA
          rw [← hii]
          have hi0 : (0 : Int) ≤ (ii : Int) := Int.natCast_nonneg _
          have hi1 : ii < n0 := by omega
          have HII := hide hii
          clear hgd hii
          go_wp2_with fail
          refine HF.out.mono ?_
          rintro e w2 ⟨rfl, hb2⟩
          have HB2 := hide (hbl.trans (hb2.mono hbs))
          have hown2 := own_grown hown hb2
          have hs2 := hb2.size
          clear hb2 HF hown
          go_wp2_with fail
          refine (HP.out w2).mono ?_
          rintro e w3 ⟨rfl, hb3⟩
          rw [HPE.out]
          have HB3 := hide (HB2.out.trans (hb3.mono (by omega)))
          have hown3 := own_grown hown2 hb3
          have hs3 := hb3.size
          clear HP HPE hb3 hown2
          go_wp2_with (at_builtin; refine wpList_append1 Tryz.sliceStr rfl _ _ rfl w3 w.heap.size _ _ _ hown3 rfl #[.string gb] 1 rfl rfl (by simp [Value.oneCell']) (by omega) (by omega) (by omega) ?_; intro v' w4 hown4 hb4)
          have HB4 := hide (HB3.out.trans hb4)
          have HO4 : Hid (w4.ownsRow w.heap.size 9 1 v' (j + 1 + 1) (sv (tx xs0 (j + 1)))) := by
            rw [← HS.out]; exact hown4
          clear hown4 hb4 HS
          go_roundw
          case rel => exact ⟨j + 1, by omega, HO4.out, by have := HII.out; congr 1; omega, HB4.out⟩
          case measure => simp [intOf]
        · obtain rfl : j = n0 - 1 := by omega
          have HE : Hid (joinB (tx xs0 (n0 - 1)) ⟨#[]⟩ = fmtB xs0) := by show _ = _; rw [HY.out, hn]
          rcases own_form hown with ⟨_, h2, _⟩ | ⟨g, c, rfl, _, hg⟩
          · omega
          · obtain ⟨_, hcc, _⟩ := own_nilcap hown
            have hJ := hide (joinWith_any g (n0 - 1 + 1) c (tx xs0 (n0 - 1)) ⟨#[]⟩ wr (tx_len _ _) hcc (fun k x hk => by
              rw [Nat.zero_add, hown.cellAt k (by have := (List.getElem?_eq_some_iff.1 hk).1; rw [tx_len] at this; omega)]
              simp [sv, hk]) hg (by omega) (by have := tx_size HL.out (n0 - 1); omega))
            clear HX HL HY hown hcc
            go_wp2_with fail
            refine hJ.out.mono ?_
            rintro e w2 ⟨rfl, hb2⟩
            have HB2 := hide (hbl.trans (hb2.mono hbs))
            clear hb2 hJ
            go_wp2_with fail
            go_ret
            exact ⟨ret_string HE.out, HB2.out⟩
  · have h0' : natB xs0 = false := by simpa using h0
    have HE := hide (fmt_no h0')
    clear R0 h0
    go_enter Tryz.func46, Tryz.ntmps46
    go_wp2_with fail
    refine H0.out.mono ?_
    rintro e w' ⟨rfl, rfl⟩
    go_wp2_with fail
    go_ret
    exact ⟨ret_string HE.out.symm, Below.refl _ _⟩
end Go.Proofs.YtnbaookdeijhhaaGreatDoor
