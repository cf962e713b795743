/-
  Fractions said of numbers: which fraction an operation makes.
-/
import Derived.Test.YtdcceppednngjabPB
namespace Go.Proofs.Ytdcceppednngjab
open Go.RowKit
set_option linter.unusedVariables false

theorem cop_eq {p q p' q' : Nat} (h : Nat.gcd p q = 1) (h' : Nat.gcd p' q' = 1) (hq : 0 < q) (hq' : 0 < q') (he : p * q' = p' * q) : p = p' ∧ q = q' := by
  have d1 : q ∣ q' := by
    have : q ∣ p * q' := ⟨p', by rw [he, Nat.mul_comm]⟩
    exact Nat.Coprime.dvd_of_dvd_mul_left (show Nat.Coprime q p by rw [Nat.Coprime, Nat.gcd_comm]; exact h) this
  have d2 : q' ∣ q := by
    have : q' ∣ p' * q := ⟨p, by rw [← he, Nat.mul_comm]⟩
    exact Nat.Coprime.dvd_of_dvd_mul_left (show Nat.Coprime q' p' by rw [Nat.Coprime, Nat.gcd_comm]; exact h') this
  have e : q = q' := Nat.dvd_antisymm d1 d2
  subst e
  exact ⟨Nat.eq_of_mul_eq_mul_right hq he, rfl⟩
theorem gcd_red (m n : Nat) (h : 0 < Nat.gcd m n) : Nat.gcd (m / Nat.gcd m n) (n / Nat.gcd m n) = 1 :=
  (Nat.gcd_div (Nat.gcd_dvd_left m n) (Nat.gcd_dvd_right m n)).trans (Nat.div_self h)
/-- a fraction hangs on its value alone -/
theorem lowR_congr {z z' : Int} {d d' : Nat} (hd : 0 < d) (hd' : 0 < d') (he : z * (d' : Int) = z' * (d : Int)) : lowR z d = lowR z' d' := by
  have hn : z.natAbs * d' = z'.natAbs * d := by
    have := congrArg Int.natAbs he
    rw [Int.natAbs_mul, Int.natAbs_mul] at this
    simpa using this
  have hg : 0 < Nat.gcd z.natAbs d := Nat.gcd_pos_of_pos_right _ hd
  have hg' : 0 < Nat.gcd z'.natAbs d' := Nat.gcd_pos_of_pos_right _ hd'
  have hs : decide (z < 0) = decide (z' < 0) := by
    refine decide_eq_decide.2 ⟨fun h => ?_, fun h => ?_⟩
    · by_cases h2 : z' < 0
      · exact h2
      · have h3 : z * (d' : Int) < 0 := Int.mul_neg_of_neg_of_pos h (by omega)
        have h4 : 0 ≤ z' * (d : Int) := Int.mul_nonneg (by omega) (by omega)
        omega
    · by_cases h2 : z < 0
      · exact h2
      · have h3 : z' * (d : Int) < 0 := Int.mul_neg_of_neg_of_pos h (by omega)
        have h4 : 0 ≤ z * (d' : Int) := Int.mul_nonneg (by omega) (by omega)
        omega
  obtain ⟨a, ha⟩ := Nat.gcd_dvd_left z.natAbs d
  obtain ⟨b, hb⟩ := Nat.gcd_dvd_right z.natAbs d
  obtain ⟨a', ha'⟩ := Nat.gcd_dvd_left z'.natAbs d'
  obtain ⟨b', hb'⟩ := Nat.gcd_dvd_right z'.natAbs d'
  have c1 := gcd_red z.natAbs d hg
  have c2 := gcd_red z'.natAbs d' hg'
  have hb0 : 0 < d / Nat.gcd z.natAbs d := Nat.div_pos (Nat.le_of_dvd hd (Nat.gcd_dvd_right _ _)) hg
  have hb0' : 0 < d' / Nat.gcd z'.natAbs d' := Nat.div_pos (Nat.le_of_dvd hd' (Nat.gcd_dvd_right _ _)) hg'
  have hx : z.natAbs / Nat.gcd z.natAbs d * (d' / Nat.gcd z'.natAbs d') = z'.natAbs / Nat.gcd z'.natAbs d' * (d / Nat.gcd z.natAbs d) := by
    refine Nat.eq_of_mul_eq_mul_left (Nat.mul_pos hg hg') ?_
    have e1 := Nat.mul_div_cancel' (Nat.gcd_dvd_left z.natAbs d)
    have e2 := Nat.mul_div_cancel' (Nat.gcd_dvd_right z.natAbs d)
    have e3 := Nat.mul_div_cancel' (Nat.gcd_dvd_left z'.natAbs d')
    have e4 := Nat.mul_div_cancel' (Nat.gcd_dvd_right z'.natAbs d')
    calc Nat.gcd z.natAbs d * Nat.gcd z'.natAbs d' * (z.natAbs / Nat.gcd z.natAbs d * (d' / Nat.gcd z'.natAbs d'))
        = (Nat.gcd z.natAbs d * (z.natAbs / Nat.gcd z.natAbs d)) * (Nat.gcd z'.natAbs d' * (d' / Nat.gcd z'.natAbs d')) := by ac_rfl
      _ = (Nat.gcd z'.natAbs d' * (z'.natAbs / Nat.gcd z'.natAbs d')) * (Nat.gcd z.natAbs d * (d / Nat.gcd z.natAbs d)) := by rw [e1, e2, e3, e4, hn]
      _ = _ := by ac_rfl
  obtain ⟨k1, k2⟩ := cop_eq c1 c2 hb0 hb0' hx
  unfold lowR
  rw [hs, k1, k2]
  by_cases hc : (limbs (z'.natAbs / Nat.gcd z'.natAbs d')).length ≤ 24 ∧ (limbs (d' / Nat.gcd z'.natAbs d')).length ≤ 24
  · rw [if_pos ⟨by omega, hc⟩, if_pos ⟨by omega, hc⟩]
  · rw [if_neg (fun h => hc h.2), if_neg (fun h => hc h.2)]
/-- the fraction z over d, and that it fits -/
def IsR (Z : (Bool × List Int) × List Int) (z : Int) (d : Nat) : Prop :=
  Z = lowR z d ∧ ratB Z.1.1 Z.1.2 Z.2 = true ∧ ∃ g : Nat, 0 < g ∧ zv Z.1.1 Z.1.2 * (g : Int) = z ∧ natV Z.2 * g = d
theorem isR {z : Int} {d : Nat} (h0 : 0 < d) (hz : z.natAbs < 1000000000 ^ 24) (hd : d < 1000000000 ^ 24) : IsR (lowR z d) z d := by
  have hg : 0 < Nat.gcd z.natAbs d := Nat.gcd_pos_of_pos_right _ h0
  have l1 : z.natAbs / Nat.gcd z.natAbs d < 1000000000 ^ 24 := Nat.lt_of_le_of_lt (Nat.div_le_self _ _) hz
  have l2 : d / Nat.gcd z.natAbs d < 1000000000 ^ 24 := Nat.lt_of_le_of_lt (Nat.div_le_self _ _) hd
  have hp : (1000000000 : Nat) ^ 24 < 1000000000 ^ 60 := by decide +kernel
  have n1 := natB_limbs (Nat.lt_trans l1 hp)
  have n2 := natB_limbs (Nat.lt_trans l2 hp)
  have e : lowR z d = ((decide (z < 0), limbs (z.natAbs / Nat.gcd z.natAbs d)), limbs (d / Nat.gcd z.natAbs d)) := by
    rw [lowR, if_pos ⟨by omega, limbs_len.2 l1, limbs_len.2 l2⟩]
  have hb0 : 0 < d / Nat.gcd z.natAbs d := Nat.div_pos (Nat.le_of_dvd h0 (Nat.gcd_dvd_right _ _)) hg
  have c1 := gcd_red z.natAbs d hg
  refine ⟨rfl, ?_, Nat.gcd z.natAbs d, hg, ?_, ?_⟩
  · rw [e]
    show ratB (decide (z < 0)) (limbs (z.natAbs / Nat.gcd z.natAbs d)) (limbs (d / Nat.gcd z.natAbs d)) = true
    have s1 : shortB (limbs (z.natAbs / Nat.gcd z.natAbs d)) (limbs (d / Nat.gcd z.natAbs d)) = true := by
      rw [shortB, decide_eq_true (limbs_len.2 l1), decide_eq_true (limbs_len.2 l2)]; rfl
    have s2 : (limbs (d / Nat.gcd z.natAbs d)).isEmpty = false := by
      have : limbs (d / Nat.gcd z.natAbs d) ≠ [] := fun h => by have := limbs_nil.1 h; omega
      simpa using this
    have s3 : bigB (decide (z < 0)) (limbs (z.natAbs / Nat.gcd z.natAbs d)) = true := by
      rw [bigB, n1]
      by_cases h : z < 0
      · have hp : 0 < z.natAbs / Nat.gcd z.natAbs d := Nat.div_pos (Nat.le_of_dvd (by omega) (Nat.gcd_dvd_left _ _)) hg
        have : limbs (z.natAbs / Nat.gcd z.natAbs d) ≠ [] := fun h => by have := limbs_nil.1 h; omega
        have : (limbs (z.natAbs / Nat.gcd z.natAbs d)).isEmpty = false := by simpa using this
        rw [this, decide_eq_true h]; rfl
      · rw [decide_eq_false h]; rfl
    rw [ratB_ok s1 s2 s3]
    refine decide_eq_true ?_
    rw [gcdL, n1, n2, natV_limbs, natV_limbs, c1]
    exact limbs_one
  · rw [e]
    show zv (decide (z < 0)) (limbs (z.natAbs / Nat.gcd z.natAbs d)) * _ = z
    have h1 : ((z.natAbs / Nat.gcd z.natAbs d : Nat) : Int) * (Nat.gcd z.natAbs d : Int) = (z.natAbs : Int) := by
      have := Nat.div_mul_cancel (Nat.gcd_dvd_left z.natAbs d)
      exact_mod_cast this
    unfold zv
    rw [val_limbs]
    by_cases h : z < 0
    · rw [decide_eq_true h, if_pos rfl, Int.neg_mul, h1]; omega
    · rw [decide_eq_false h, if_neg (by simp), h1]; omega
  · rw [e]
    show natV (limbs (d / Nat.gcd z.natAbs d)) * _ = d
    rw [natV_limbs]
    exact Nat.div_mul_cancel (Nat.gcd_dvd_right z.natAbs d)
section
variable {Z Y : (Bool × List Int) × List Int} {z y : Int} {d e : Nat}
theorem IsR.pos (h : IsR Z z d) : 0 < natV Z.2 := natV_pos (ratB_den h.2.1) (ratB_pos h.2.1)
theorem IsR.dpos (h : IsR Z z d) : 0 < d := by
  have := IsR.pos h
  obtain ⟨_, _, g, hg, _, he⟩ := h
  rw [← he]; exact Nat.mul_pos this hg
theorem isR_eq (h : IsR Z z d) (k : IsR Y y e) (he : z * (e : Int) = y * (d : Int)) : Z = Y := by
  rw [h.1, k.1]; exact lowR_congr h.dpos k.dpos he
theorem addR_is (h : IsR Z z d) (k : IsR Y y e) : addR Z.1.1 Z.1.2 Z.2 Y.1.1 Y.1.2 Y.2 = lowR (z * e + y * d) (d * e) := by
  have p1 := h.pos
  have p2 := k.pos
  have p3 := h.dpos
  have p4 := k.dpos
  obtain ⟨_, r1, g, hg, hz, hd⟩ := h
  obtain ⟨_, r2, f, hf, hy, he⟩ := k
  rw [addR, r1, r2, zval (ratB_den r1), zval (ratB_den r2)]
  refine lowR_congr (Nat.mul_pos p1 p2) (Nat.mul_pos p3 p4) ?_
  rw [← hz, ← hd, ← hy, ← he]
  simp only [Int.natCast_mul, Int.add_mul]
  congr 1 <;> ac_rfl
theorem IsR.zero (k : IsR Y y e) : zv Y.1.1 Y.1.2 = 0 ↔ y = 0 := by
  obtain ⟨_, _, f, hf, hy, _⟩ := k
  constructor
  · intro h; rw [← hy, h, Int.zero_mul]
  · intro h
    rw [h] at hy
    rcases Int.mul_eq_zero.1 hy with h1 | h1
    · exact h1
    · omega
theorem cmpV_scale {a b : Int} {k : Int} (hk : 0 < k) : cmpV (a * k) (b * k) = cmpV a b := by
  unfold cmpV
  by_cases h1 : a < b
  · rw [if_pos h1, if_pos (Int.mul_lt_mul_of_pos_right h1 hk)]
  · rw [if_neg h1, if_neg (by have := Int.mul_le_mul_of_nonneg_right (show b ≤ a by omega) (show 0 ≤ k by omega); omega)]
    by_cases h2 : b < a
    · rw [if_pos h2, if_pos (Int.mul_lt_mul_of_pos_right h2 hk)]
    · rw [if_neg h2, if_neg (by have := Int.mul_le_mul_of_nonneg_right (show a ≤ b by omega) (show 0 ≤ k by omega); omega)]
theorem cmpW_is (h : IsR Z z d) (k : IsR Y y e) : cmpW Z.1.1 Z.1.2 Z.2 Y.1.1 Y.1.2 Y.2 = cmpV (z * e) (y * d) := by
  obtain ⟨_, r1, g, hg, hz, hd⟩ := h
  obtain ⟨_, r2, f, hf, hy, he⟩ := k
  rw [cmpW, zval (ratB_den r1), zval (ratB_den r2), ← hz, ← hd, ← hy, ← he]
  have hp : (0 : Int) < (g : Int) * (f : Int) := Int.mul_pos (by omega) (by omega)
  rw [← cmpV_scale hp]
  congr 1
  · simp only [Int.natCast_mul]; ac_rfl
  · simp only [Int.natCast_mul]; ac_rfl
theorem signR_is (h : IsR Z z d) : signR Z.1.1 Z.1.2 Z.2 = cmpV z 0 := by
  obtain ⟨_, r1, g, hg, hz, hd⟩ := h
  rw [signR, r1, if_pos rfl, ← hz]
  have hp : (0 : Int) < (g : Int) := by omega
  have := cmpV_scale (a := zv Z.1.1 Z.1.2) (b := 0) hp
  rw [Int.zero_mul] at this
  exact this.symm
theorem sameR_self (Z : (Bool × List Int) × List Int) : sameR Z.1.1 Z.1.2 Z.2 Z.1.1 Z.1.2 Z.2 = true := by simp [sameR]
end
/-! ### a fraction's text -/
end Go.Proofs.Ytdcceppednngjab
