/-
  Plain facts on decimal numerals: what a numeral's text parses to. Of no program.
-/
import Derived.Test.YtpepbjmjgkgalaaDoorMem
import Derived.Lib.AtoiAll
import Derived.Lib.ItoaMem
namespace Go.Proofs.YtpepbjmjgkgalaaDoor
open Go.RowKit

/-! ### the digits of a number -/
def dgt (n : Nat) : UInt8 := UInt8.ofNat (48 + n)
theorem dgt_nat {n : Nat} (h : n < 10) : (dgt n).toNat = 48 + n := by simp [dgt]; omega
theorem dgt_val {n : Nat} (h : n < 10) : ((dgt n).toNat : Int) = 48 + n := by rw [dgt_nat h]; simp
theorem dec_one {k : Nat} (h : k < 10) : Lib.decDigits k = [dgt k] := Lib.decDigits_one h
theorem dec_more {k : Nat} (h : 9 < k) : Lib.decDigits k = Lib.decDigits (k / 10) ++ [dgt (k % 10)] := by
  conv => lhs; rw [Lib.decDigits]
  rw [dif_neg (by omega)]; rfl
theorem dec_len (k : Nat) : (Lib.decDigits k).length ≤ k + 1 := by
  induction k using Nat.strongRecOn with
  | _ k ih =>
    by_cases h : k < 10
    · rw [dec_one h]; simp
    · rw [dec_more (by omega), List.length_append, List.length_singleton]
      have := ih (k / 10) (by omega)
      omega
theorem dec_pos (k : Nat) : 0 < (Lib.decDigits k).length := by
  by_cases h : k < 10
  · rw [dec_one h]; simp
  · rw [dec_more (by omega)]; simp
theorem dec_digit (k : Nat) : ∀ c ∈ Lib.decDigits k, 48 ≤ c.toNat ∧ c.toNat ≤ 57 := by
  induction k using Nat.strongRecOn with
  | _ k ih =>
    intro c hc
    by_cases h : k < 10
    · rw [dec_one h, List.mem_singleton] at hc
      subst hc; rw [dgt_nat h]; omega
    · rw [dec_more (by omega), List.mem_append, List.mem_singleton] at hc
      rcases hc with hc | rfl
      · exact ih (k / 10) (by omega) c hc
      · rw [dgt_nat (by omega)]; omega
/-- the value of digits -/
def dval (l : List UInt8) : Nat := l.foldl (fun a c => a * 10 + (c.toNat - 48)) 0
theorem dval_snoc (l : List UInt8) (c : UInt8) : dval (l ++ [c]) = dval l * 10 + (c.toNat - 48) := by simp [dval]
theorem dval_dec (k : Nat) : dval (Lib.decDigits k) = k := by
  induction k using Nat.strongRecOn with
  | _ k ih =>
    by_cases h : k < 10
    · rw [dec_one h]; simp [dval, dgt_nat h]
    · rw [dec_more (by omega), dval_snoc, ih (k / 10) (by omega), dgt_nat (by omega)]
      omega
theorem dval_fold (l : List UInt8) : ∀ a, l.foldl (fun a c => a * 10 + (c.toNat - 48)) a = a * 10 ^ l.length + dval l := by
  induction l with
  | nil => intro a; simp [dval]
  | cons c r ih =>
    intro a
    have e : dval (c :: r) = r.foldl (fun a c => a * 10 + (c.toNat - 48)) (0 * 10 + (c.toNat - 48)) := rfl
    rw [List.foldl_cons, ih, e, ih (0 * 10 + _), List.length_cons, Nat.pow_succ, Nat.zero_mul, Nat.zero_add, Nat.add_mul, Nat.mul_assoc, Nat.mul_comm 10, Nat.add_assoc]
theorem dval_le_append (l r : List UInt8) : dval l ≤ dval (l ++ r) := by
  have : dval (l ++ r) = dval l * 10 ^ r.length + dval r := by rw [dval, List.foldl_append, dval_fold]; rfl
  rw [this]
  have : 1 ≤ 10 ^ r.length := Nat.one_le_pow _ _ (by omega)
  have := Nat.le_mul_of_pos_right (dval l) this
  omega
theorem dval_take_le (l : List UInt8) (k : Nat) : dval (l.take k) ≤ dval l := by
  have := dval_le_append (l.take k) (l.drop k)
  rwa [List.take_append_drop] at this
theorem dec_len19 {k : Nat} (h : k ≤ 9999999999999999999) : (Lib.decDigits k).length ≤ 19 := by
  suffices H : ∀ n k, k < 10 ^ (n + 1) → (Lib.decDigits k).length ≤ n + 1 from H 18 k (by omega)
  intro n
  induction n with
  | zero => intro k hk; rw [dec_one (by omega)]; simp
  | succ n ih =>
    intro k hk
    by_cases h : k < 10
    · rw [dec_one h]; simp
    · rw [dec_more (by omega), List.length_append, List.length_singleton]
      have := ih (k / 10) (by rw [Nat.pow_succ] at hk; omega)
      omega

/-! ### the numeral of an int -/
def itoaB (n : Int) : ByteArray := ⟨(Lib.itoa n).toArray⟩
theorem itoaB_data (n : Int) : (itoaB n).data.toList = Lib.itoa n := by simp [itoaB]
theorem itoaB_nat (k : Nat) : itoaB k = ⟨(Lib.decDigits k).toArray⟩ := by rw [itoaB, Lib.itoa_nonneg]
theorem itoaB_neg {k : Nat} (h : 1 ≤ k) : itoaB (-(k : Int)) = ⟨(45 :: Lib.decDigits k).toArray⟩ := by rw [itoaB, Lib.itoa_neg k h]
theorem parse_dec : ∀ (l : List UInt8) (acc : Nat), (∀ c ∈ l, 48 ≤ c.toNat ∧ c.toNat ≤ 57) → acc * 10 ^ l.length + dval l < 18446744073709551616 → Lib.parseUint10 acc l = .ok (acc * 10 ^ l.length + dval l)
  | [], acc, _, _ => by simp [Lib.parseUint10, dval]
  | c :: r, acc, hc, hb => by
    have h1 := hc c (List.mem_cons_self ..)
    have e : acc * 10 ^ (c :: r).length + dval (c :: r) = (acc * 10 + (c.toNat - 48)) * 10 ^ r.length + dval r := by
      have e : dval (c :: r) = r.foldl (fun a c => a * 10 + (c.toNat - 48)) (0 * 10 + (c.toNat - 48)) := rfl
      rw [e, dval_fold, List.length_cons, Nat.pow_succ, Nat.zero_mul, Nat.zero_add, Nat.add_mul, Nat.mul_assoc, Nat.mul_comm 10, Nat.add_assoc]
    rw [e] at hb ⊢
    have hp : 1 ≤ 10 ^ r.length := Nat.one_le_pow _ _ (by omega)
    have hle : acc * 10 + (c.toNat - 48) ≤ (acc * 10 + (c.toNat - 48)) * 10 ^ r.length := Nat.le_mul_of_pos_right _ hp
    rw [Lib.parseUint10, if_pos h1, if_neg (by omega), if_neg (by omega)]
    exact parse_dec r _ (fun d hd => hc d (List.mem_cons_of_mem _ hd)) hb
theorem parseMag_dec {k : Nat} (h : k < 18446744073709551616) : Lib.parseMag (Lib.decDigits k) = .ok k := by
  have hne : Lib.decDigits k ≠ [] := fun e => by have := dec_pos k; rw [e] at this; simp at this
  rw [Lib.parseMag, if_neg hne, parse_dec _ 0 (dec_digit k) (by rw [dval_dec]; omega), dval_dec]
  simp
theorem atoi_itoa {n : Int} (h1 : -9223372036854775808 ≤ n) (h2 : n ≤ 9223372036854775807) : Lib.atoiAll (Lib.itoa n) = .ok n := by
  by_cases h0 : n < 0
  · obtain ⟨k, rfl⟩ : ∃ k : Nat, n = -(k : Int) := ⟨n.natAbs, by omega⟩
    rw [Lib.itoa_neg k (by omega), Lib.atoiAll]
    simp only [show (45 : UInt8).toNat = 45 from rfl, or_true, if_true]
    rw [parseMag_dec (by omega)]
    simp; omega
  · obtain ⟨k, rfl⟩ : ∃ k : Nat, n = (k : Int) := ⟨n.toNat, by omega⟩
    rw [Lib.itoa_nonneg]
    match hd : Lib.decDigits k with
    | [] => have := dec_pos k; rw [hd] at this; simp at this
    | c :: r =>
      have hc := dec_digit k c (by rw [hd]; exact List.mem_cons_self ..)
      rw [Lib.atoiAll, if_neg (by omega), ← hd, parseMag_dec (by omega)]
      simp only []
      rw [if_neg (by omega), if_neg (by omega), if_neg (by omega)]
theorem itoaB_inj {n m : Int} (h1 : -9223372036854775808 ≤ n) (h2 : n ≤ 9223372036854775807) (h3 : -9223372036854775808 ≤ m) (h4 : m ≤ 9223372036854775807) (h : itoaB n = itoaB m) : n = m := by
  have e : Lib.itoa n = Lib.itoa m := by rw [← itoaB_data, ← itoaB_data, h]
  have a := atoi_itoa h1 h2
  rw [e, atoi_itoa h3 h4] at a
  injection a with a
  exact a.symm
/-- no int has this text -/
def NoInt (s : ByteArray) : Prop := ∀ n : Int, -9223372036854775808 ≤ n → n ≤ 9223372036854775807 → itoaB n ≠ s
open Classical in
noncomputable def pok (s : ByteArray) : Bool := decide (¬ NoInt s)
open Classical in
noncomputable def pval (s : ByteArray) : Int := if h : ∃ n : Int, -9223372036854775808 ≤ n ∧ n ≤ 9223372036854775807 ∧ itoaB n = s then h.choose else 0
theorem parse_none {s : ByteArray} (h : NoInt s) : pok s = false ∧ pval s = 0 := by
  refine ⟨by simp [pok, h], ?_⟩
  unfold pval
  rw [dif_neg]
  rintro ⟨n, h1, h2, h3⟩
  exact h n h1 h2 h3
theorem parse_some {s : ByteArray} {n : Int} (h1 : -9223372036854775808 ≤ n) (h2 : n ≤ 9223372036854775807) (h : itoaB n = s) : pok s = true ∧ pval s = n := by
  have hn : ¬ NoInt s := fun hh => hh n h1 h2 h
  refine ⟨by simp [pok, hn], ?_⟩
  have hex : ∃ n : Int, -9223372036854775808 ≤ n ∧ n ≤ 9223372036854775807 ∧ itoaB n = s := ⟨n, h1, h2, h⟩
  unfold pval
  rw [dif_pos hex]
  have hs := hex.choose_spec
  exact itoaB_inj hs.1 hs.2.1 h1 h2 (hs.2.2.trans h.symm)
end Go.Proofs.YtpepbjmjgkgalaaDoor
