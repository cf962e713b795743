/-
  The texts NatP, NatQ, put together; each has its own heading below. No condition of ours.
-/
import Derived.Test.YtdcceppednngjabMem
/-
  Natural numbers as lists of limbs: plain mathematics. Of no program.
-/

namespace Go.Proofs.Ytdcceppednngjab
open Go.RowKit
set_option linter.unusedVariables false

/-- every limb from 0 to Base - 1 -/
def Limbs (l : List Int) : Prop := ∀ d ∈ l, 0 ≤ d ∧ d ≤ 999999999
/-- no zero limb at the end -/
def Canon (l : List Int) : Prop := Limbs l ∧ ∀ d, l.getLast? = some d → d ≠ 0
/-- the value -/
def val : List Int → Int
  | [] => 0
  | d :: r => d + 1000000000 * val r
/-- the limbs of a number -/
def limbs (n : Nat) : List Int := if h : n = 0 then [] else ((n % 1000000000 : Nat) : Int) :: limbs (n / 1000000000)
  termination_by n
  decreasing_by omega
theorem limbs_zero : limbs 0 = [] := by rw [limbs]; simp
theorem limbs_pos {n : Nat} (h : 0 < n) : limbs n = ((n % 1000000000 : Nat) : Int) :: limbs (n / 1000000000) := by
  rw [limbs, dif_neg (by omega)]
theorem val_limbs (n : Nat) : val (limbs n) = n := by
  induction n using Nat.strongRecOn with
  | _ n ih =>
    by_cases h : n = 0
    · subst h; rw [limbs_zero]; rfl
    · rw [limbs_pos (by omega), val, ih (n / 1000000000) (by omega)]; omega
theorem limbs_ok (n : Nat) : Limbs (limbs n) := by
  induction n using Nat.strongRecOn with
  | _ n ih =>
    by_cases h : n = 0
    · subst h; rw [limbs_zero]; intro d hd; simp at hd
    · rw [limbs_pos (by omega)]
      intro d hd
      rw [List.mem_cons] at hd
      rcases hd with rfl | hd
      · omega
      · exact ih (n / 1000000000) (by omega) d hd
theorem limbs_nil {n : Nat} : limbs n = [] ↔ n = 0 := by
  constructor
  · intro h
    have := val_limbs n
    rw [h] at this
    simp [val] at this; omega
  · rintro rfl; exact limbs_zero
theorem limbs_canon (n : Nat) : Canon (limbs n) := by
  refine ⟨limbs_ok n, ?_⟩
  induction n using Nat.strongRecOn with
  | _ n ih =>
    by_cases h : n = 0
    · subst h; rw [limbs_zero]; intro d hd; simp at hd
    · rw [limbs_pos (by omega)]
      intro d hd
      by_cases h2 : n / 1000000000 = 0
      · rw [h2, limbs_zero] at hd
        simp at hd; omega
      · have hne : limbs (n / 1000000000) ≠ [] := fun e => h2 (limbs_nil.1 e)
        rw [List.getLast?_cons_of_ne_nil hne] at hd
        exact ih (n / 1000000000) (by omega) d hd
theorem Limbs.cons {d : Int} {r : List Int} (h : Limbs (d :: r)) : (0 ≤ d ∧ d ≤ 999999999) ∧ Limbs r := ⟨h d (List.mem_cons_self ..), fun x hx => h x (List.mem_cons_of_mem _ hx)⟩
theorem Limbs.nil : Limbs [] := fun d hd => by simp at hd
theorem Limbs.mk {d : Int} {r : List Int} (h : 0 ≤ d ∧ d ≤ 999999999) (hr : Limbs r) : Limbs (d :: r) := fun x hx => by
  rw [List.mem_cons] at hx
  rcases hx with rfl | hx
  · exact h
  · exact hr x hx
theorem Limbs.append {l r : List Int} (h : Limbs l) (hr : Limbs r) : Limbs (l ++ r) := fun x hx => by
  rw [List.mem_append] at hx
  rcases hx with hx | hx
  · exact h x hx
  · exact hr x hx
theorem Limbs.take {l : List Int} (h : Limbs l) (k : Nat) : Limbs (l.take k) := fun x hx => h x (List.mem_of_mem_take hx)
theorem Limbs.drop {l : List Int} (h : Limbs l) (k : Nat) : Limbs (l.drop k) := fun x hx => h x (List.mem_of_mem_drop hx)
theorem val_nonneg {l : List Int} (h : Limbs l) : 0 ≤ val l := by
  induction l with
  | nil => simp [val]
  | cons d r ih =>
    have := ih h.cons.2
    have := h.cons.1
    rw [val]; omega
theorem val_append (l r : List Int) : val (l ++ r) = val l + 1000000000 ^ l.length * val r := by
  induction l with
  | nil => simp [val]
  | cons d l ih =>
    rw [List.cons_append, val, val, ih, List.length_cons, Int.pow_succ, Int.mul_add, Int.add_assoc, ← Int.mul_assoc, Int.mul_comm (1000000000 ^ l.length)]
theorem val_lt {l : List Int} (h : Limbs l) : val l < 1000000000 ^ l.length := by
  induction l with
  | nil => simp [val]
  | cons d r ih =>
    have := ih h.cons.2
    have := h.cons.1
    rw [val, List.length_cons, Int.pow_succ]
    omega
/-- a number has one list of limbs -/
theorem limbs_val {l : List Int} (h : Canon l) : limbs (val l).toNat = l := by
  induction l with
  | nil => simp [val, limbs_zero]
  | cons d r ih =>
    obtain ⟨h1, h2⟩ := h
    have hd := h1.cons.1
    have hr := h1.cons.2
    have hv := val_nonneg hr
    have hcr : Canon r := by
      refine ⟨hr, fun x hx => h2 x ?_⟩
      have hne : r ≠ [] := fun e => by subst e; simp at hx
      rw [List.getLast?_cons_of_ne_nil hne]; exact hx
    have hpos : 0 < (val (d :: r)).toNat := by
      rw [val]
      by_cases hn : r = []
      · subst hn
        have := h2 d (by simp)
        simp [val]; omega
      · have hz : val r ≠ 0 := fun e => by
          have hi := ih hcr
          rw [e] at hi
          simp [limbs_zero] at hi
          exact hn hi
        omega
    rw [limbs_pos hpos]
    have e1 : (val (d :: r)).toNat % 1000000000 = d.toNat := by rw [val]; omega
    have e2 : (val (d :: r)).toNat / 1000000000 = (val r).toNat := by rw [val]; omega
    rw [e1, e2, ih hcr]
    congr 1
    omega
theorem limbs_unique {l : List Int} {n : Nat} (h : Canon l) (hv : val l = n) : l = limbs n := by
  rw [← limbs_val h, hv]; simp
/-- how many limbs a number has -/
theorem limbs_len {n k : Nat} : (limbs n).length ≤ k ↔ n < 1000000000 ^ k := by
  induction k generalizing n with
  | zero =>
    rw [Nat.pow_zero, Nat.le_zero, List.length_eq_zero_iff, limbs_nil]; omega
  | succ k ih =>
    by_cases h : n = 0
    · subst h
      rw [limbs_zero]
      have := Nat.one_le_pow (k + 1) 1000000000 (by omega)
      simp only [List.length_nil]
      constructor <;> intro _ <;> omega
    · rw [limbs_pos (by omega), List.length_cons, Nat.succ_le_succ_iff, ih, Nat.pow_succ]
      omega
theorem Canon.nil : Canon [] := ⟨Limbs.nil, fun d hd => by simp at hd⟩

/-! ### without the zeros at the end -/
def trim (l : List Int) : List Int := (l.reverse.dropWhile (· == 0)).reverse
theorem trim_snoc_zero (l : List Int) : trim (l ++ [0]) = trim l := by simp [trim]
theorem trim_snoc {l : List Int} {d : Int} (h : d ≠ 0) : trim (l ++ [d]) = l ++ [d] := by simp [trim, h]
theorem snoc_cases (l : List Int) : l = [] ∨ ∃ r d, l = r ++ [d] := by
  rcases List.eq_nil_or_concat l with h | ⟨r, d, h⟩
  · exact .inl h
  · exact .inr ⟨r, d, by rw [h, List.concat_eq_append]⟩
theorem trim_prefix (l : List Int) : ∃ k, k ≤ l.length ∧ trim l = l.take k ∧ val (trim l) = val l := by
  suffices H : ∀ n (l : List Int), l.length = n → ∃ k, k ≤ l.length ∧ trim l = l.take k ∧ val (trim l) = val l from H _ l rfl
  intro n
  induction n with
  | zero => intro l hl; have := List.eq_nil_of_length_eq_zero hl; subst this; exact ⟨0, Nat.le_refl _, rfl, rfl⟩
  | succ n ih =>
    intro l hl
    rcases snoc_cases l with rfl | ⟨r, d, rfl⟩
    · simp at hl
    · by_cases hd : d = 0
      · subst hd
        obtain ⟨k, h1, h2, h3⟩ := ih r (by simpa using hl)
        refine ⟨k, by simp; omega, ?_, ?_⟩
        · rw [trim_snoc_zero, h2, List.take_append_of_le_length h1]
        · rw [trim_snoc_zero, h3, val_append]; simp [val]
      · exact ⟨(r ++ [d]).length, Nat.le_refl _, by rw [trim_snoc hd, List.take_length], by rw [trim_snoc hd]⟩
theorem trim_canon {l : List Int} (h : Limbs l) : Canon (trim l) := by
  suffices H : ∀ n (l : List Int), l.length = n → Limbs l → Canon (trim l) from H _ l rfl h
  intro n
  induction n with
  | zero => intro l hl _; have := List.eq_nil_of_length_eq_zero hl; subst this; exact Canon.nil
  | succ n ih =>
    intro l hl h
    rcases snoc_cases l with rfl | ⟨r, d, rfl⟩
    · simp at hl
    · by_cases hd : d = 0
      · subst hd
        rw [trim_snoc_zero]
        exact ih r (by simpa using hl) fun x hx => h x (List.mem_append_left _ hx)
      · rw [trim_snoc hd]
        exact ⟨h, fun x hx => by simp at hx; omega⟩
theorem trim_eq {l : List Int} (h : Limbs l) {n : Nat} (hv : val l = n) : trim l = limbs n := by
  obtain ⟨k, _, _, e⟩ := trim_prefix l
  exact limbs_unique (trim_canon h) (e.trans hv)

/-! ### what the chapter's functions answer -/
/-- is the list a natural number? -/
def natB (l : List Int) : Bool := l.all (fun d => decide (0 ≤ d) && decide (d ≤ 999999999)) && decide (l.length ≤ 60) && (l.getLast? != some 0)
theorem natB_iff (l : List Int) : natB l = true ↔ Canon l ∧ l.length ≤ 60 := by
  simp only [natB, Bool.and_eq_true, List.all_eq_true, decide_eq_true_eq, bne_iff_ne, ne_eq]
  constructor
  · rintro ⟨⟨h1, h2⟩, h3⟩
    exact ⟨⟨h1, fun d hd e => h3 (by rw [hd, e])⟩, h2⟩
  · rintro ⟨⟨h1, h3⟩, h2⟩
    exact ⟨⟨h1, h2⟩, fun e => h3 0 e rfl⟩
/-- the number's limbs if there are few enough, else none -/
def capL (n : Nat) : List Int := if (limbs n).length ≤ 60 then limbs n else []
def natV (l : List Int) : Nat := (val l).toNat
theorem natV_val {l : List Int} (h : natB l = true) : ((natV l : Nat) : Int) = val l := by
  have := val_nonneg ((natB_iff l).1 h).1.1
  rw [natV]; omega
theorem limbs_natV {l : List Int} (h : natB l = true) : limbs (natV l) = l := limbs_val ((natB_iff l).1 h).1
def addL (a b : List Int) : List Int := if natB a && natB b then capL (natV a + natV b) else []
def mulL (a b : List Int) : List Int := if natB a && natB b then capL (natV a * natV b) else []
def gcdL (a b : List Int) : List Int := if natB a && natB b then limbs (Nat.gcd (natV a) (natV b)) else []
def quoL (a b : List Int) : List Int := if natB a && natB b then limbs (natV a / natV b) else []
def remL (a b : List Int) : List Int := if natB a && natB b && !b.isEmpty then limbs (natV a % natV b) else []

/-! ### order -/
def cmpV (a b : Int) : Int := if a < b then -1 else if b < a then 1 else 0
theorem cmpV_lt {a b : Int} (h : a < b) : cmpV a b = -1 := by rw [cmpV, if_pos h]
theorem cmpV_gt {a b : Int} (h : b < a) : cmpV a b = 1 := by rw [cmpV, if_neg (by omega), if_pos h]
theorem cmpV_eq (a : Int) : cmpV a a = 0 := by rw [cmpV, if_neg (by omega), if_neg (by omega)]
theorem val_top (l : List Int) (d : Int) (r : List Int) : val (l ++ d :: r) = val l + 1000000000 ^ l.length * (d + 1000000000 * val r) := by rw [val_append, val]
theorem pow_cast (k : Nat) : (1000000000 : Int) ^ k = ((1000000000 ^ k : Nat) : Int) := by
  induction k with
  | zero => rfl
  | succ k ih => rw [Int.pow_succ, ih, Nat.pow_succ, Int.natCast_mul]; rfl
theorem pow_pos' (k : Nat) : (0 : Int) < 1000000000 ^ k := Int.pow_pos (by omega)
theorem val_lt_top {l l' r : List Int} {d d' : Int} (hl : Limbs l) (hl' : Limbs l') (he : l.length = l'.length) (h : d < d') : val (l ++ d :: r) < val (l' ++ d' :: r) := by
  rw [val_top, val_top, ← he]
  have h1 := val_lt hl
  have h2 := val_nonneg hl'
  have hp := pow_pos' l.length
  have h3 : 1000000000 ^ l.length * (d + 1000000000 * val r + 1) ≤ 1000000000 ^ l.length * (d' + 1000000000 * val r) := Int.mul_le_mul_of_nonneg_left (by omega) (Int.le_of_lt hp)
  rw [Int.mul_add, Int.mul_one] at h3
  omega
theorem val_ge_canon {l : List Int} (h : Canon l) (h0 : 0 < l.length) : 1000000000 ^ (l.length - 1) ≤ val l := by
  rcases snoc_cases l with rfl | ⟨r, d, rfl⟩
  · simp at h0
  · have hd := h.2 d (by simp)
    have hd0 := (h.1 d (by simp)).1
    have hr := val_nonneg (l := r) fun x hx => h.1 x (List.mem_append_left _ hx)
    rw [val_append]
    have e : (r ++ [d]).length - 1 = r.length := by simp
    have h3 : 1000000000 ^ r.length * 1 ≤ 1000000000 ^ r.length * (val [d]) := Int.mul_le_mul_of_nonneg_left (by simp [val]; omega) (Int.le_of_lt (pow_pos' _))
    rw [e]; omega
theorem val_lt_len {a b : List Int} (ha : Limbs a) (hb : Canon b) (h : a.length < b.length) : val a < val b := by
  have h1 := val_lt ha
  have h2 := val_ge_canon hb (by omega)
  have h3 : (1000000000 : Int) ^ a.length ≤ 1000000000 ^ (b.length - 1) := by
    have := Nat.pow_le_pow_right (n := 1000000000) (by omega) (show a.length ≤ b.length - 1 by omega)
    rw [pow_cast, pow_cast]
    exact Int.ofNat_le.2 this
  omega
end Go.Proofs.Ytdcceppednngjab

/-
  A natural number's text, in groups of nine digits. Of no program.
-/


namespace Go.Proofs.Ytdcceppednngjab
open Go.RowKit
set_option linter.unusedVariables false

/-- the digit at place i -/
def dg (s : ByteArray) (i : Nat) : Int := if h : i < s.size then (s[i].toNat : Int) - 48 else 0
/-- the number that k digits from place a on tell -/
def numL (s : ByteArray) (a : Nat) : Nat → Int
  | 0 => 0
  | k + 1 => numL s a k * 10 + dg s (a + k)
/-- the groups of the first e digits, the last group first -/
def parts (s : ByteArray) (e : Nat) : List Int := if h : e = 0 then [] else numL s (e - 9) (e - (e - 9)) :: parts s (e - 9)
  termination_by e
  decreasing_by omega
end Go.Proofs.Ytdcceppednngjab
