/-
  Big integers: the number of a sign and a magnitude, and what each function answers.
-/
import Derived.Test.YtcainjgcfbgddaaNatM
namespace Go.Proofs.Ytcainjgcfbgddaa
open Go.RowKit
set_option linter.unusedVariables false

/-- the number of a sign and a magnitude -/
def zv (s : Bool) (xs : List Int) : Int := if s then -val xs else val xs
def bigB (s : Bool) (xs : List Int) : Bool := natB xs && !(s && xs.isEmpty)
/-- the big integer of a number, no number where it is too long -/
def capZ (z : Int) : Bool × List Int := (decide (z < 0) && !(capL z.natAbs).isEmpty, capL z.natAbs)
def noZ : Bool × List Int := (false, [])
def negZ (s : Bool) (xs : List Int) : Bool × List Int := if bigB s xs then capZ (-zv s xs) else noZ
def addZ (s : Bool) (xs : List Int) (t : Bool) (ys : List Int) : Bool × List Int := if bigB s xs && bigB t ys then capZ (zv s xs + zv t ys) else noZ
def subZ (s : Bool) (xs : List Int) (t : Bool) (ys : List Int) : Bool × List Int := if bigB s xs && bigB t ys then capZ (zv s xs - zv t ys) else noZ
def mulZ (s : Bool) (xs : List Int) (t : Bool) (ys : List Int) : Bool × List Int := if bigB s xs && bigB t ys then capZ (zv s xs * zv t ys) else noZ
def cmpZ (s : Bool) (xs : List Int) (t : Bool) (ys : List Int) : Int := if bigB s xs && bigB t ys then cmpV (zv s xs) (zv t ys) else 0
def intOkZ (s : Bool) (xs : List Int) : Bool := bigB s xs && natIntOk xs
def intZ (s : Bool) (xs : List Int) : Int := if intOkZ s xs then zv s xs else 0
def floorZ (s : Bool) (xs ys : List Int) : Bool × List Int := if bigB s xs && natB ys && !ys.isEmpty then capZ (zv s xs / val ys) else noZ
def restZ (s : Bool) (xs ys : List Int) : List Int := if bigB s xs && natB ys && !ys.isEmpty then limbs (zv s xs % val ys).toNat else []

theorem capL_60 (n : Nat) : (capL n).length ≤ 60 := by unfold capL; split <;> simp_all
theorem capZ_len (z : Int) : (capZ z).2.length ≤ 60 := capL_60 _
theorem noZ_len : noZ.2.length ≤ 60 := by simp [noZ]
theorem negZ_len (s : Bool) (xs : List Int) : (negZ s xs).2.length ≤ 1048576 := by
  unfold negZ; split
  · have := capZ_len (-zv s xs); omega
  · have := noZ_len; omega
theorem addZ_len (s : Bool) (xs : List Int) (t : Bool) (ys : List Int) : (addZ s xs t ys).2.length ≤ 1048576 := by
  unfold addZ; split
  · have := capZ_len (zv s xs + zv t ys); omega
  · have := noZ_len; omega
theorem subZ_len (s : Bool) (xs : List Int) (t : Bool) (ys : List Int) : (subZ s xs t ys).2.length ≤ 1048576 := by
  unfold subZ; split
  · have := capZ_len (zv s xs - zv t ys); omega
  · have := noZ_len; omega
theorem mulZ_len (s : Bool) (xs : List Int) (t : Bool) (ys : List Int) : (mulZ s xs t ys).2.length ≤ 1048576 := by
  unfold mulZ; split
  · have := capZ_len (zv s xs * zv t ys); omega
  · have := noZ_len; omega
theorem ofZ_len (z : Int) : (capZ z).2.length ≤ 1048576 := by have := capZ_len z; omega
theorem floorZ_len (s : Bool) (xs ys : List Int) : (floorZ s xs ys).2.length ≤ 1048576 := by
  unfold floorZ; split
  · have := capZ_len (zv s xs / val ys); omega
  · have := noZ_len; omega

theorem capL_zero : capL 0 = [] := by unfold capL; rw [limbs_zero]; simp
theorem capL_of {n : Nat} (h : n < 1000000000 ^ 60) : capL n = limbs n := by unfold capL; rw [if_pos (limbs_len.2 h)]
/-- a sign and a magnitude, made a big integer -/
theorem capZ_make (s : Bool) (k : Nat) : (s && !(capL k).isEmpty, capL k) = capZ (if s then -(k : Int) else k) := by
  cases s
  · have h : ¬ ((k : Int) < 0) := by omega
    simp [capZ, h]
  · by_cases h : k = 0
    · subst h; simp [capZ, capL_zero]
    · have h' : -(k : Int) < 0 := by omega
      have e : (-(k : Int)).natAbs = k := by omega
      show _ = (decide (-(k : Int) < 0) && !(capL (-(k : Int)).natAbs).isEmpty, capL (-(k : Int)).natAbs)
      rw [e, decide_eq_true h']
theorem capZ_make' (s : Bool) (k : Nat) (b : Bool) (l : List Int) (hl : l = capL k) (hb : b = (s && !l.isEmpty)) : (b, l) = capZ (if s then -(k : Int) else k) := by
  subst hl; subst hb; exact capZ_make s k

theorem bigB_nat {s : Bool} {xs : List Int} (h : bigB s xs = true) : natB xs = true := by unfold bigB at h; simp at h; exact h.1
theorem bigB_bad {s : Bool} {xs : List Int} (h : natB xs = false) : bigB s xs = false := by unfold bigB; rw [h]; rfl
theorem natV_nonneg {xs : List Int} (h : natB xs = true) : 0 ≤ val xs := by have := natV_val h; omega
theorem natB_lt {xs : List Int} (h : natB xs = true) : natV xs < 1000000000 ^ 60 := limbs_len.1 (by rw [limbs_natV h]; exact ((natB_iff xs).1 h).2)
theorem natB_zero {xs : List Int} (h : natB xs = true) : xs.isEmpty = decide (natV xs = 0) := by
  by_cases h0 : natV xs = 0
  · have := limbs_natV h
    rw [h0, limbs_zero] at this
    subst this; simp [natV, val]
  · have hne : xs ≠ [] := by intro e; subst e; exact h0 (by simp [natV, val])
    rw [decide_eq_false h0]
    cases xs with
    | nil => exact absurd rfl hne
    | cons a l => rfl
theorem zv_neg (s : Bool) (xs : List Int) : zv (!s) xs = -zv s xs := by cases s <;> simp [zv]
theorem zv_nat {s : Bool} {xs : List Int} (h : natB xs = true) : zv s xs = if s then -(natV xs : Int) else natV xs := by unfold zv; rw [natV_val h]
theorem big_capZ (s : Bool) {xs : List Int} (h : natB xs = true) : (s && !xs.isEmpty, xs) = capZ (zv s xs) := by
  have h2 : xs = capL (natV xs) := by rw [capL_of (natB_lt h), limbs_natV h]
  rw [zv_nat h, capZ_make' s (natV xs) _ xs h2 rfl]
theorem negZ_ok {s : Bool} {xs : List Int} (h : bigB s xs = true) : (!s && !xs.isEmpty, xs) = negZ s xs := by
  rw [negZ, h, if_pos rfl, ← zv_neg, big_capZ _ (bigB_nat h)]
theorem zv_norm (u : Bool) (ys : List Int) : zv (u && !ys.isEmpty) ys = zv u ys := by
  cases ys with
  | nil => cases u <;> simp [zv, val]
  | cons a l => simp
theorem isEmpty_len {xs : List Int} {n : Nat} (h : xs.length = n) : xs.isEmpty = ((n : Int) == 0) := by
  subst h; cases xs with
  | nil => rfl
  | cons a l => simp; omega
end Go.Proofs.Ytcainjgcfbgddaa
