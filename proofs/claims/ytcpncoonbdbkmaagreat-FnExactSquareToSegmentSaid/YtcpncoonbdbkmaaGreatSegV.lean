/-
  Fractions and the rational numbers that they are: what each operation on whole fractions makes of the values; what is small stays valid.
-/
import Derived.Test.YtcpncoonbdbkmaaGreatSV
import Derived.Test.YtcpncoonbdbkmaaGreatSegP
import Derived.Test.YtcpncoonbdbkmaaGreatSegG
namespace Go.Proofs.YtcpncoonbdbkmaaGreat
open Go.RowKit
set_option linter.unusedVariables false
/-- the number that a fraction is -/
def rv (Z : RQ) : Rat := (zv Z.1.1 Z.1.2 : Rat) / (natV Z.2 : Rat)
theorem natQ_pos {n : Nat} (h : 0 < n) : (0 : Rat) < (n : Rat) := by exact_mod_cast h
theorem IsR.rv {Z : RQ} {z : Int} {d : Nat} (h : IsR Z z d) : rv Z = (z : Rat) / (d : Rat) := by
  have h1 := natQ_pos h.pos
  have h2 := natQ_pos h.dpos
  obtain ⟨_, _, g, hg, hz, hd⟩ := h
  have e1 : (zv Z.1.1 Z.1.2 : Rat) * (g : Rat) = (z : Rat) := by exact_mod_cast congrArg (Int.cast (R := Rat)) hz
  have e2 : (natV Z.2 : Rat) * (g : Rat) = (d : Rat) := by exact_mod_cast congrArg (Nat.cast (R := Rat)) hd
  have hg' := natQ_pos hg
  unfold Go.Proofs.YtcpncoonbdbkmaaGreat.rv
  rw [← e1, ← e2]
  grind
theorem lowR_cases (z : Int) (d : Nat) : lowR z d = noR ∨ (0 < d ∧ IsR (lowR z d) z d) := by
  by_cases h : d ≠ 0 ∧ (limbs (z.natAbs / Nat.gcd z.natAbs d)).length ≤ 24 ∧ (limbs (d / Nat.gcd z.natAbs d)).length ≤ 24
  · right
    obtain ⟨h0, h1, h2⟩ := h
    have hd : 0 < d := by omega
    have hg : 0 < Nat.gcd z.natAbs d := Nat.gcd_pos_of_pos_right _ hd
    have l1 := limbs_len.1 h1
    have l2 := limbs_len.1 h2
    obtain ⟨a, ha⟩ := Nat.gcd_dvd_left z.natAbs d
    obtain ⟨b, hb⟩ := Nat.gcd_dvd_right z.natAbs d
    have hd0 : 0 < d / Nat.gcd z.natAbs d := Nat.div_pos (Nat.le_of_dvd hd (Nat.gcd_dvd_right _ _)) hg
    have m1 := Nat.div_mul_cancel (Nat.gcd_dvd_left z.natAbs d)
    have m2 := Nat.div_mul_cancel (Nat.gcd_dvd_right z.natAbs d)
    generalize hG : Nat.gcd z.natAbs d = G at *
    generalize z.natAbs / G = p at *
    generalize d / G = q at *
    obtain ⟨y, hy, hyz⟩ : ∃ y : Int, y.natAbs = p ∧ y * (G : Int) = z := by
      by_cases hz : z < 0
      · exact ⟨-(p : Int), by omega, by rw [Int.neg_mul, ← Int.natCast_mul, m1]; omega⟩
      · exact ⟨(p : Int), by omega, by rw [← Int.natCast_mul, m1]; omega⟩
    have hi : IsR (lowR y q) y q := isR hd0 (by omega) (by omega)
    have e : lowR z d = lowR y q := lowR_congr hd hd0 (by rw [← hyz, ← m2, Int.natCast_mul, Int.mul_assoc, Int.mul_comm (G : Int)])
    refine ⟨hd, e ▸ ?_⟩
    obtain ⟨k1, k2, g, k3, k4, k5⟩ := hi
    exact ⟨e.symm, k2, g * G, Nat.mul_pos k3 hg, by rw [Int.natCast_mul, ← Int.mul_assoc, k4, hyz], by rw [← Nat.mul_assoc, k5, m2]⟩
  · left
    rw [lowR, if_neg h]
theorem noR_bad : ratQ noR = false := by decide
/-- a valid fraction is the reduced one of its own parts -/
theorem valid_is {Z : RQ} (h : ratQ Z = true) : IsR Z (zv Z.1.1 Z.1.2) (natV Z.2) := by
  have hx := ratB_big h
  have hd := ratB_den h
  have h0 := ratB_pos h
  have hn := bigB_nat hx
  obtain ⟨s1, s2⟩ := ratB_short h
  have hp := natV_pos hd h0
  have hg : gcdL Z.1.2 Z.2 = [1] := by
    have h2 := h
    unfold ratQ ratB at h2
    simp only [Bool.and_eq_true, decide_eq_true_eq] at h2
    exact h2.2
  have hc : Nat.gcd (zv Z.1.1 Z.1.2).natAbs (natV Z.2) = 1 := by
    rw [zv_abs hn]
    have e : gcdL Z.1.2 Z.2 = limbs (Nat.gcd (natV Z.1.2) (natV Z.2)) := by rw [gcdL, hn, hd]; rfl
    rw [e] at hg
    exact one_iff.1 hg
  refine ⟨?_, h, 1, by decide, by simp, by simp⟩
  rw [lowR, hc, Nat.div_one, Nat.div_one, zv_abs hn, limbs_natV hn, limbs_natV hd, zv_lt hx, if_pos ⟨by omega, s1, s2⟩]
theorem rv_inj {Z Y : RQ} (h : ratQ Z = true) (k : ratQ Y = true) (e : rv Z = rv Y) : Z = Y := by
  have h1 := valid_is h
  have k1 := valid_is k
  have p1 := natQ_pos h1.pos
  have p2 := natQ_pos k1.pos
  unfold rv at e
  have e2 : (zv Z.1.1 Z.1.2 : Rat) * (natV Y.2 : Rat) = (zv Y.1.1 Y.1.2 : Rat) * (natV Z.2 : Rat) := by grind
  exact isR_eq h1 k1 (by exact_mod_cast e2)
section
variable {Z Y : RQ}
theorem op_cases {z : Int} {d : Nat} {x : Rat} (h : ratQ Z = true) (k : ratQ Y = true) (O : RQ) (e : O = lowR z d) (hx : d ≠ 0 → (z : Rat) / (d : Rat) = x) : O = noR ∨ (ratQ O = true ∧ rv O = x) := by
  rcases lowR_cases z d with h0 | ⟨h0, h1⟩
  · exact .inl (e.trans h0)
  · subst e
    exact .inr ⟨h1.2.1, by rw [h1.rv]; exact hx (by omega)⟩
theorem bad_no {Z : RQ} {c : Bool} {a : RQ} (h : c = false) : (if c then a else noR) = noR := by rw [h]; rfl
theorem addQ_no (h : ratQ Z = false ∨ ratQ Y = false) : addQ Z Y = noR := bad_no (Z := Z) (by rcases h with h | h <;> (unfold ratQ at h; simp [h]))
theorem subQ_no (h : ratQ Z = false ∨ ratQ Y = false) : subQ Z Y = noR := bad_no (Z := Z) (by rcases h with h | h <;> (unfold ratQ at h; simp [h]))
theorem mulQ_no (h : ratQ Z = false ∨ ratQ Y = false) : mulQ Z Y = noR := bad_no (Z := Z) (by rcases h with h | h <;> (unfold ratQ at h; simp [h]))
theorem divQ_no (h : ratQ Z = false ∨ ratQ Y = false) : divQ Z Y = noR := bad_no (Z := Z) (by rcases h with h | h <;> (unfold ratQ at h; simp [h]))
theorem minQ_no (h : ratQ Z = false ∨ ratQ Y = false) : minQ Z Y = noR := bad_no (Z := Z) (by rcases h with h | h <;> (unfold ratQ at h; simp [h]))
theorem maxQ_no (h : ratQ Z = false ∨ ratQ Y = false) : maxQ Z Y = noR := bad_no (Z := Z) (by rcases h with h | h <;> (unfold ratQ at h; simp [h]))
theorem addQ_val (h : ratQ Z = true) (k : ratQ Y = true) : addQ Z Y = noR ∨ (ratQ (addQ Z Y) = true ∧ rv (addQ Z Y) = rv Z + rv Y) := by
  have h1 := valid_is h
  have k1 := valid_is k
  have p1 := natQ_pos h1.pos
  have p2 := natQ_pos k1.pos
  refine op_cases h k _ (addR_is h1 k1) fun _ => ?_
  unfold rv
  push_cast
  grind
theorem subQ_val (h : ratQ Z = true) (k : ratQ Y = true) : subQ Z Y = noR ∨ (ratQ (subQ Z Y) = true ∧ rv (subQ Z Y) = rv Z - rv Y) := by
  have h1 := valid_is h
  have k1 := valid_is k
  have p1 := natQ_pos h1.pos
  have p2 := natQ_pos k1.pos
  refine op_cases h k _ (subR_is h1 k1) fun _ => ?_
  unfold rv
  push_cast
  grind
theorem mulQ_val (h : ratQ Z = true) (k : ratQ Y = true) : mulQ Z Y = noR ∨ (ratQ (mulQ Z Y) = true ∧ rv (mulQ Z Y) = rv Z * rv Y) := by
  have h1 := valid_is h
  have k1 := valid_is k
  have p1 := natQ_pos h1.pos
  have p2 := natQ_pos k1.pos
  refine op_cases h k _ (mulR_is h1 k1) fun _ => ?_
  unfold rv
  push_cast
  grind
theorem rv_zero (h : ratQ Z = true) : rv Z = 0 ↔ zv Z.1.1 Z.1.2 = 0 := by
  have p1 := natQ_pos (valid_is h).pos
  constructor
  · intro e
    unfold rv at e
    have : (zv Z.1.1 Z.1.2 : Rat) = 0 := by grind
    exact_mod_cast this
  · intro e
    unfold rv
    rw [e]
    grind
theorem divQ_val (h : ratQ Z = true) (k : ratQ Y = true) (h0 : rv Y ≠ 0) : divQ Z Y = noR ∨ (ratQ (divQ Z Y) = true ∧ rv (divQ Z Y) = rv Z / rv Y) := by
  have h1 := valid_is h
  have k1 := valid_is k
  have p1 := natQ_pos h1.pos
  have p2 := natQ_pos k1.pos
  have hy : zv Y.1.1 Y.1.2 ≠ 0 := fun e => h0 ((rv_zero k).2 e)
  refine op_cases h k _ (divR_is h1 k1 hy) fun _ => ?_
  unfold rv
  by_cases hn : zv Y.1.1 Y.1.2 < 0
  · rw [if_pos hn]
    have e : ((zv Y.1.1 Y.1.2).natAbs : Rat) = -(zv Y.1.1 Y.1.2 : Rat) := by
      have : ((zv Y.1.1 Y.1.2).natAbs : Int) = -zv Y.1.1 Y.1.2 := by omega
      exact_mod_cast congrArg (Int.cast (R := Rat)) this
    have e0 : (zv Y.1.1 Y.1.2 : Rat) ≠ 0 := by exact_mod_cast hy
    push_cast
    rw [e]
    grind
  · rw [if_neg hn]
    have e : ((zv Y.1.1 Y.1.2).natAbs : Rat) = (zv Y.1.1 Y.1.2 : Rat) := by
      have : ((zv Y.1.1 Y.1.2).natAbs : Int) = zv Y.1.1 Y.1.2 := by omega
      exact_mod_cast congrArg (Int.cast (R := Rat)) this
    have e0 : (zv Y.1.1 Y.1.2 : Rat) ≠ 0 := by exact_mod_cast hy
    push_cast
    rw [e]
    grind
theorem divQ_zero (h0 : rv Y = 0) : divQ Z Y = noR := by
  by_cases hv : ratQ Z = true ∧ ratQ Y = true
  · have hz := (rv_zero hv.2).1 h0
    have hn : natV Y.1.2 = 0 := by have := zv_abs (s := Y.1.1) (bigB_nat (ratB_big hv.2)); omega
    unfold divQ divR
    split
    · rw [hn, Nat.zero_mul, lowR, if_neg (by omega)]
    · rfl
  · refine divQ_no ?_
    by_cases h1 : ratQ Z = true
    · exact .inr (by simpa using fun h2 => hv ⟨h1, h2⟩)
    · exact .inl (by simpa using h1)
theorem cmpV_rat {a b : Int} {x y : Rat} (h1 : a < b ↔ x < y) (h2 : a = b ↔ x = y) : (cmpV a b < 0 ↔ x < y) ∧ (cmpV a b = 0 ↔ x = y) ∧ (0 < cmpV a b ↔ y < x) := by
  unfold cmpV
  rcases Int.lt_trichotomy a b with h | h | h
  · rw [if_pos h]
    have := h1.1 h
    refine ⟨by simp; exact this, by simp; grind, by simp; grind⟩
  · have := h2.1 h
    rw [if_neg (by omega), if_neg (by omega)]
    refine ⟨by simp; grind, by simp; exact this, by simp; grind⟩
  · have n1 : ¬ x < y := fun k => by have := h1.2 k; omega
    have n2 : ¬ x = y := fun k => by have := h2.2 k; omega
    rw [if_neg (by omega), if_pos h]
    refine ⟨by simp; grind, by simp; exact n2, by simp; grind⟩
theorem cmpW_rv (h : ratQ Z = true) (k : ratQ Y = true) : (cmpW Z.1.1 Z.1.2 Z.2 Y.1.1 Y.1.2 Y.2 < 0 ↔ rv Z < rv Y) ∧ (cmpW Z.1.1 Z.1.2 Z.2 Y.1.1 Y.1.2 Y.2 = 0 ↔ rv Z = rv Y) ∧ (0 < cmpW Z.1.1 Z.1.2 Z.2 Y.1.1 Y.1.2 Y.2 ↔ rv Y < rv Z) := by
  have p1 := natQ_pos (valid_is h).pos
  have p2 := natQ_pos (valid_is k).pos
  rw [cmpW_is (valid_is h) (valid_is k)]
  have e1 : rv Z * (natV Z.2 : Rat) = (zv Z.1.1 Z.1.2 : Rat) := by unfold rv; grind
  have e2 : rv Y * (natV Y.2 : Rat) = (zv Y.1.1 Y.1.2 : Rat) := by unfold rv; grind
  have c : ∀ a b : Int, (a < b ↔ (a : Rat) < (b : Rat)) ∧ (a = b ↔ (a : Rat) = (b : Rat)) := fun a b => ⟨by exact_mod_cast Iff.rfl, by exact_mod_cast Iff.rfl⟩
  have m : (0 : Rat) < (natV Z.2 : Rat) * (natV Y.2 : Rat) := Rat.mul_pos p1 p2
  refine cmpV_rat ?_ ?_
  · rw [(c _ _).1]; push_cast
    rw [← e1, ← e2]
    constructor
    · intro hl
      rcases (show rv Z < rv Y ∨ rv Y ≤ rv Z by grind) with q | q
      · exact q
      · have := qmul_nn (show 0 ≤ rv Z - rv Y by grind) (Rat.le_of_lt m); grind
    · intro hl
      have := Rat.mul_pos (show 0 < rv Y - rv Z by grind) m; grind
  · rw [(c _ _).2]; push_cast
    rw [← e1, ← e2]
    constructor
    · intro hl
      rcases (show rv Z < rv Y ∨ rv Y < rv Z ∨ rv Z = rv Y by grind) with q | q | q
      · have := Rat.mul_pos (show 0 < rv Y - rv Z by grind) m; grind
      · have := Rat.mul_pos (show 0 < rv Z - rv Y by grind) m; grind
      · exact q
    · intro hl; rw [hl]; grind
theorem signQ_rv (h : ratQ Z = true) : (signQ Z < 0 ↔ rv Z < 0) ∧ (signQ Z = 0 ↔ rv Z = 0) ∧ (0 < signQ Z ↔ 0 < rv Z) := by
  have p1 := natQ_pos (valid_is h).pos
  have e1 : rv Z * (natV Z.2 : Rat) = (zv Z.1.1 Z.1.2 : Rat) := by unfold rv; grind
  rw [show signQ Z = cmpV (zv Z.1.1 Z.1.2) 0 from signR_is (valid_is h)]
  have c : ∀ a b : Int, (a < b ↔ (a : Rat) < (b : Rat)) ∧ (a = b ↔ (a : Rat) = (b : Rat)) := fun a b => ⟨by exact_mod_cast Iff.rfl, by exact_mod_cast Iff.rfl⟩
  refine cmpV_rat ?_ ?_
  · rw [(c _ _).1, ← e1]
    push_cast
    constructor
    · intro hl
      rcases (show rv Z < 0 ∨ 0 ≤ rv Z by grind) with q | q
      · exact q
      · have := qmul_nn q (Rat.le_of_lt p1); grind
    · intro hl
      have := Rat.mul_pos (show 0 < -rv Z by grind) p1; grind
  · rw [(c _ _).2, ← e1]
    push_cast
    constructor
    · intro hl; grind
    · intro hl; rw [hl]; grind
theorem signQ_no (h : ratQ Z = false) : signQ Z = 0 := by unfold signQ signR; unfold ratQ at h; rw [h]; rfl
theorem minQ_val (h : ratQ Z = true) (k : ratQ Y = true) : minQ Z Y = if rv Z ≤ rv Y then Z else Y := by
  have hc := cmpW_rv h k
  unfold minQ minR
  rw [show (ratB Z.1.1 Z.1.2 Z.2 && ratB Y.1.1 Y.1.2 Y.2) = true by unfold ratQ at h k; rw [h, k]; rfl, if_pos rfl]
  by_cases hl : rv Z ≤ rv Y
  · rw [if_pos hl, if_pos (by rcases Int.lt_or_le 0 (cmpW Z.1.1 Z.1.2 Z.2 Y.1.1 Y.1.2 Y.2) with q | q; (exact absurd (hc.2.2.1 q) (by grind)); exact q)]
  · rw [if_neg hl, if_neg (by have := hc.2.2.2 (by grind); omega)]
theorem maxQ_val (h : ratQ Z = true) (k : ratQ Y = true) : maxQ Z Y = if rv Y ≤ rv Z then Z else Y := by
  have hc := cmpW_rv h k
  unfold maxQ maxR
  rw [show (ratB Z.1.1 Z.1.2 Z.2 && ratB Y.1.1 Y.1.2 Y.2) = true by unfold ratQ at h k; rw [h, k]; rfl, if_pos rfl]
  by_cases hl : rv Y ≤ rv Z
  · rw [if_pos hl, if_pos (by rcases Int.lt_or_le (cmpW Z.1.1 Z.1.2 Z.2 Y.1.1 Y.1.2 Y.2) 0 with q | q; (exact absurd (hc.1.1 q) (by grind)); exact q)]
  · rw [if_neg hl, if_neg (by have := hc.1.2 (by grind); omega)]
end
/-! ### small fractions: they stay valid -/
/-- the number x as a fraction with parts of at most B -/
def IsV (Z : RQ) (x : Rat) (B : Nat) : Prop := ∃ (z : Int) (d : Nat), IsS Z z d B ∧ x = (z : Rat) / (d : Rat)
section
variable {Z Y : RQ} {x y : Rat} {B C : Nat}
theorem IsV.of {z : Int} {d : Nat} (h : IsS Z z d B) : IsV Z ((z : Rat) / (d : Rat)) B := ⟨z, d, h, rfl⟩
theorem IsV.ok (h : IsV Z x B) : ratQ Z = true := by obtain ⟨z, d, h, _⟩ := h; exact h.valid
theorem IsV.rv (h : IsV Z x B) : rv Z = x := by obtain ⟨z, d, h, e⟩ := h; rw [h.1.rv, e]
theorem IsV.fit (h : IsV Z x B) : QFit Z := by obtain ⟨z, d, h, _⟩ := h; exact h.fit
theorem IsV.mono (h : IsV Z x B) (hB : B ≤ C) : IsV Z x C := by obtain ⟨z, d, ⟨h1, h2, h3⟩, e⟩ := h; exact ⟨z, d, ⟨h1, by omega, by omega⟩, e⟩
theorem IsV.max (h : IsV Z x B) (k : IsV Y y C) : IsV (maxQ Z Y) (if y ≤ x then x else y) (Nat.max B C) := by
  rw [maxQ_val h.ok k.ok, h.rv, k.rv]
  split
  · exact h.mono (Nat.le_max_left _ _)
  · exact k.mono (Nat.le_max_right _ _)
theorem intQ_V (a : Int) (ha : a.natAbs ≤ 1000) : IsV (intQ a) (a : Rat) (max a.natAbs 1) := by
  refine ⟨a, 1, ?_, by grind⟩
  have hp : (1000 : Nat) < 1000000000 ^ 24 := by decide +kernel
  rw [intQ_low a ha]
  exact low_S (by decide) (Nat.le_max_left _ _) (Nat.le_max_right _ _) (by omega)
end
end Go.Proofs.YtcpncoonbdbkmaaGreat
