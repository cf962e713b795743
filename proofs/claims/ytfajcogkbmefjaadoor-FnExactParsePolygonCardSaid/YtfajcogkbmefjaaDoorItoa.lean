/-
  Itoa and Atoi, as mathematics (second part).
-/
import Derived.Test.YtfajcogkbmefjaaDoorItoaD
import Derived.Lib.AtoiAll
namespace Go.Proofs.YtfajcogkbmefjaaDoor
open Go.RowKit
set_option linter.unusedVariables false

theorem parse_dec : ∀ (l : List UInt8) (acc : Nat), (∀ c ∈ l, 48 ≤ c.toNat ∧ c.toNat ≤ 57) → acc * 10 ^ l.length + dval l < 18446744073709551616 → Lib.parseUint10 acc l = .ok (acc * 10 ^ l.length + dval l)
  | [], acc, _, _ => by simp [Lib.parseUint10, dval]
  | c :: r, acc, hc, hb => by
    have h1 := hc c (List.mem_cons_self ..)
    have e : acc * 10 ^ (c :: r).length + dval (c :: r) = (acc * 10 + (c.toNat - 48)) * 10 ^ r.length + dval r := by
      have e : dval (c :: r) = r.foldl (fun a c => a * 10 + (c.toNat - 48)) (0 * 10 + (c.toNat - 48)) := rfl
      rw [e, dval_fold, List.length_cons, Nat.pow_succ, Nat.zero_mul, Nat.zero_add, Nat.add_mul, Nat.mul_assoc, Nat.mul_comm 10, Nat.add_assoc]
    rw [e] at hb ⊢
    have hp : 1 ≤ 10 ^ r.length := Nat.one_le_pow _ _ (by omega)
    have hle : acc * 10 + (c.toNat - 48) ≤ (acc * 10 + (c.toNat - 48)) * 10 ^ r.length := Nat.le_mul_of_pos_right _ hp
    rw [Lib.parseUint10, if_pos h1, if_neg (by omega), if_neg (by omega)]
    exact parse_dec r _ (fun d hd => hc d (List.mem_cons_of_mem _ hd)) hb
theorem parseMag_dec {k : Nat} (h : k < 18446744073709551616) : Lib.parseMag (Lib.decDigits k) = .ok k := by
  have hne : Lib.decDigits k ≠ [] := fun e => by have := dec_pos k; rw [e] at this; simp at this
  rw [Lib.parseMag, if_neg hne, parse_dec _ 0 (dec_digit k) (by rw [dval_dec]; omega), dval_dec]
  simp
theorem atoi_itoa {n : Int} (h1 : -9223372036854775808 ≤ n) (h2 : n ≤ 9223372036854775807) : Lib.atoiAll (Lib.itoa n) = .ok n := by
  by_cases h0 : n < 0
  · obtain ⟨k, rfl⟩ : ∃ k : Nat, n = -(k : Int) := ⟨n.natAbs, by omega⟩
    rw [Lib.itoa_neg k (by omega), Lib.atoiAll]
    simp only [show (45 : UInt8).toNat = 45 from rfl, or_true, if_true]
    rw [parseMag_dec (by omega)]
    simp; omega
  · obtain ⟨k, rfl⟩ : ∃ k : Nat, n = (k : Int) := ⟨n.toNat, by omega⟩
    rw [Lib.itoa_nonneg]
    match hd : Lib.decDigits k with
    | [] => have := dec_pos k; rw [hd] at this; simp at this
    | c :: r =>
      have hc := dec_digit k c (by rw [hd]; exact List.mem_cons_self ..)
      rw [Lib.atoiAll, if_neg (by omega), ← hd, parseMag_dec (by omega)]
      simp only []
      rw [if_neg (by omega), if_neg (by omega), if_neg (by omega)]
theorem itoaB_inj {n m : Int} (h1 : -9223372036854775808 ≤ n) (h2 : n ≤ 9223372036854775807) (h3 : -9223372036854775808 ≤ m) (h4 : m ≤ 9223372036854775807) (h : itoaB n = itoaB m) : n = m := by
  have e : Lib.itoa n = Lib.itoa m := by rw [← itoaB_data, ← itoaB_data, h]
  have a := atoi_itoa h1 h2
  rw [e, atoi_itoa h3 h4] at a
  injection a with a
  exact a.symm
/-- no int has this text -/
def NoInt (s : ByteArray) : Prop := ∀ n : Int, -9223372036854775808 ≤ n → n ≤ 9223372036854775807 → itoaB n ≠ s
open Classical in
noncomputable def pok (s : ByteArray) : Bool := decide (¬ NoInt s)
open Classical in
noncomputable def pval (s : ByteArray) : Int := if h : ∃ n : Int, -9223372036854775808 ≤ n ∧ n ≤ 9223372036854775807 ∧ itoaB n = s then h.choose else 0
theorem parse_none {s : ByteArray} (h : NoInt s) : pok s = false ∧ pval s = 0 := by
  refine ⟨by simp [pok, h], ?_⟩
  unfold pval
  rw [dif_neg]
  rintro ⟨n, h1, h2, h3⟩
  exact h n h1 h2 h3
theorem parse_some {s : ByteArray} {n : Int} (h1 : -9223372036854775808 ≤ n) (h2 : n ≤ 9223372036854775807) (h : itoaB n = s) : pok s = true ∧ pval s = n := by
  have hn : ¬ NoInt s := fun hh => hh n h1 h2 h
  refine ⟨by simp [pok, hn], ?_⟩
  have hex : ∃ n : Int, -9223372036854775808 ≤ n ∧ n ≤ 9223372036854775807 ∧ itoaB n = s := ⟨n, h1, h2, h⟩
  unfold pval
  rw [dif_pos hex]
  have hs := hex.choose_spec
  exact itoaB_inj hs.1 hs.2.1 h1 h2 (hs.2.2.trans h.symm)
end Go.Proofs.YtfajcogkbmefjaaDoor
