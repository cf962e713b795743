/-
  The texts SegG, SegV, SegE, put together; each has its own heading below. No condition of ours.
-/
import Derived.IntWalk
import Derived.Test.YtafhhemojdblpaaGreatSV
import Derived.Test.YtafhhemojdblpaaGreatSegP
/-
  The plane over fractions: segments, convex polygons, where a segment leaves one; squares of distances.
-/

namespace Go.Proofs.YtafhhemojdblpaaGreat
set_option linter.unusedVariables false

abbrev RP := Rat × Rat
def crsQ (a b c : RP) : Rat := (b.1 - a.1) * (c.2 - a.2) - (b.2 - a.2) * (c.1 - a.1)
/-- the point at t of the segment from a to b -/
def atQ (a b : RP) (t : Rat) : RP := (a.1 + t * (b.1 - a.1), a.2 + t * (b.2 - a.2))
def OnQ (a b x : RP) : Prop := ∃ t : Rat, 0 ≤ t ∧ t ≤ 1 ∧ x = atQ a b t
theorem OnQ.mk {a b x : RP} {t : Rat} (h0 : 0 ≤ t) (h1 : t ≤ 1) (hx : x.1 = a.1 + t * (b.1 - a.1)) (hy : x.2 = a.2 + t * (b.2 - a.2)) : OnQ a b x := ⟨t, h0, h1, Prod.ext hx hy⟩
theorem qmul_nn {a b : Rat} (h : 0 ≤ a) (k : 0 ≤ b) : 0 ≤ a * b := Rat.mul_nonneg h k
theorem qsq (a : Rat) : 0 ≤ a * a := by
  rcases (show 0 ≤ a ∨ a ≤ 0 by grind) with h | h
  · exact qmul_nn h h
  · have := qmul_nn (show 0 ≤ -a by grind) (show 0 ≤ -a by grind); grind
theorem OnQ.left (a b : RP) : OnQ a b a := OnQ.mk (t := 0) (by grind) (by grind) (by grind) (by grind)
theorem OnQ.symm {a b x : RP} (h : OnQ a b x) : OnQ b a x := by
  obtain ⟨t, h0, h1, rfl⟩ := h
  exact OnQ.mk (t := 1 - t) (by grind) (by grind) (by simp only [atQ]; grind) (by simp only [atQ]; grind)
theorem OnQ.sub {p q x y z : RP} (hx : OnQ p q x) (hy : OnQ p q y) (hz : OnQ x y z) : OnQ p q z := by
  obtain ⟨s, s0, s1, rfl⟩ := hx
  obtain ⟨t, t0, t1, rfl⟩ := hy
  obtain ⟨r, r0, r1, rfl⟩ := hz
  have m1 := qmul_nn r0 t0
  have m2 := qmul_nn (show 0 ≤ 1 - r by grind) s0
  have m3 := qmul_nn r0 (show 0 ≤ 1 - t by grind)
  have m4 := qmul_nn (show 0 ≤ 1 - r by grind) (show 0 ≤ 1 - s by grind)
  exact OnQ.mk (t := s + r * (t - s)) (by grind) (by grind) (by simp only [atQ]; grind) (by simp only [atQ]; grind)
/-! ### convex polygons: n corners f 0 .. f (n - 1), counterclockwise -/
def nxQ (n i : Nat) : Nat := (i + 1) % n
def ConvQ (n : Nat) (f : Nat → RP) : Prop := 3 ≤ n ∧ ∀ i j, i < n → j < n → j ≠ i → j ≠ nxQ n i → 0 < crsQ (f i) (f (nxQ n i)) (f j)
def InsQ (n : Nat) (f : Nat → RP) (x : RP) : Prop := ∀ i, i < n → 0 ≤ crsQ (f i) (f (nxQ n i)) x
theorem crsQ_at (a b p q : RP) (t : Rat) : crsQ a b (atQ p q t) = (1 - t) * crsQ a b p + t * crsQ a b q := by simp only [crsQ, atQ]; grind
theorem crsQ_l (a b : RP) : crsQ a b a = 0 := by unfold crsQ; grind
theorem crsQ_r (a b : RP) : crsQ a b b = 0 := by unfold crsQ; grind
theorem nxQ_lt {n i : Nat} (h : i < n) : nxQ n i < n := Nat.mod_lt _ (by omega)
theorem ConvQ.on {n : Nat} {f : Nat → RP} (h : ConvQ n f) {i : Nat} (hi : i < n) {x : RP} (hx : OnQ (f i) (f (nxQ n i)) x) : InsQ n f x := by
  obtain ⟨t, t0, t1, rfl⟩ := hx
  intro j hj
  rw [crsQ_at]
  have hc : ∀ m, m < n → 0 ≤ crsQ (f j) (f (nxQ n j)) (f m) := by
    intro m hm
    by_cases e1 : m = j
    · rw [e1, crsQ_l]; exact Rat.le_refl
    · by_cases e2 : m = nxQ n j
      · rw [e2, crsQ_r]; exact Rat.le_refl
      · exact Rat.le_of_lt (h.2 j m hj hm e1 e2)
  have m1 := qmul_nn (show 0 ≤ 1 - t by grind) (hc i hi)
  have m2 := qmul_nn t0 (hc _ (nxQ_lt hi))
  grind
theorem InsQ.on {n : Nat} {f : Nat → RP} {p q x : RP} (hp : InsQ n f p) (hq : InsQ n f q) (hx : OnQ p q x) : InsQ n f x := by
  obtain ⟨t, t0, t1, rfl⟩ := hx
  intro j hj
  rw [crsQ_at]
  have m1 := qmul_nn (show 0 ≤ 1 - t by grind) (hp j hj)
  have m2 := qmul_nn t0 (hq j hj)
  grind
/-! ### distances -/
def innQ (a b c : RP) : Rat := (b.1 - a.1) * (c.1 - a.1) + (b.2 - a.2) * (c.2 - a.2)
def dq (p q : RP) : Rat := (q.1 - p.1) * (q.1 - p.1) + (q.2 - p.2) * (q.2 - p.2)
def clampQ (t : Rat) : Rat := if t ≤ 0 then 0 else if 1 ≤ t then 1 else t
def nearQ (p a b : RP) : RP := atQ a b (clampQ (innQ a p b / dq a b))
def sqQ (p a b : RP) : Rat := if a = b then dq p a else dq p (nearQ p a b)
theorem dq_nn (p q : RP) : 0 ≤ dq p q := by
  have := qsq (q.1 - p.1); have := qsq (q.2 - p.2); unfold dq; grind
theorem dq_zero {p q : RP} (h : dq p q = 0) : p = q := by
  have h1 := qsq (q.1 - p.1); have h2 := qsq (q.2 - p.2); unfold dq at h
  have h3 : (q.1 - p.1) * (q.1 - p.1) = 0 := by grind
  have h4 : (q.2 - p.2) * (q.2 - p.2) = 0 := by grind
  exact Prod.ext (by grind) (by grind)
theorem dq_pos {p q : RP} (h : p ≠ q) : 0 < dq p q := by
  have h1 := dq_nn p q
  have h2 : dq p q ≠ 0 := fun e => h (dq_zero e)
  grind
/-- v is the least of n numbers -/
def LeastQ (n : Nat) (S : Nat → Rat) (v : Rat) : Prop := (∀ i, i < n → v ≤ S i) ∧ ∃ i, i < n ∧ v = S i
/-- the distance of a point from a polygon, as the program takes it -/
def PolD (n : Nat) (f : Nat → RP) (p : RP) (v : Rat) : Prop := (InsQ n f p ∧ v = 0) ∨ (¬ InsQ n f p ∧ LeastQ n (fun i => sqQ p (f i) (f (nxQ n i))) v)
end Go.Proofs.YtafhhemojdblpaaGreat

/-
  Fractions and the rational numbers that they are: what each operation on whole fractions makes of the values; what is small stays valid.
-/



namespace Go.Proofs.YtafhhemojdblpaaGreat
open Go.RowKit
set_option linter.unusedVariables false
/-- the number that a fraction is -/
def rv (Z : RQ) : Rat := (zv Z.1.1 Z.1.2 : Rat) / (natV Z.2 : Rat)
theorem natQ_pos {n : Nat} (h : 0 < n) : (0 : Rat) < (n : Rat) := by exact_mod_cast h
theorem IsR.rv {Z : RQ} {z : Int} {d : Nat} (h : IsR Z z d) : rv Z = (z : Rat) / (d : Rat) := by
  have h1 := natQ_pos h.pos
  have h2 := natQ_pos h.dpos
  obtain ⟨_, _, g, hg, hz, hd⟩ := h
  have e1 : (zv Z.1.1 Z.1.2 : Rat) * (g : Rat) = (z : Rat) := by exact_mod_cast congrArg (Int.cast (R := Rat)) hz
  have e2 : (natV Z.2 : Rat) * (g : Rat) = (d : Rat) := by exact_mod_cast congrArg (Nat.cast (R := Rat)) hd
  have hg' := natQ_pos hg
  unfold Go.Proofs.YtafhhemojdblpaaGreat.rv
  rw [← e1, ← e2]
  grind
/-- a valid fraction is the reduced one of its own parts -/
theorem valid_is {Z : RQ} (h : ratQ Z = true) : IsR Z (zv Z.1.1 Z.1.2) (natV Z.2) := by
  have hx := ratB_big h
  have hd := ratB_den h
  have h0 := ratB_pos h
  have hn := bigB_nat hx
  obtain ⟨s1, s2⟩ := ratB_short h
  have hp := natV_pos hd h0
  have hg : gcdL Z.1.2 Z.2 = [1] := by
    have h2 := h
    unfold ratQ ratB at h2
    simp only [Bool.and_eq_true, decide_eq_true_eq] at h2
    exact h2.2
  have hc : Nat.gcd (zv Z.1.1 Z.1.2).natAbs (natV Z.2) = 1 := by
    rw [zv_abs hn]
    have e : gcdL Z.1.2 Z.2 = limbs (Nat.gcd (natV Z.1.2) (natV Z.2)) := by rw [gcdL, hn, hd]; rfl
    rw [e] at hg
    exact one_iff.1 hg
  refine ⟨?_, h, 1, by decide, by simp, by simp⟩
  rw [lowR, hc, Nat.div_one, Nat.div_one, zv_abs hn, limbs_natV hn, limbs_natV hd, zv_lt hx, if_pos ⟨by omega, s1, s2⟩]
theorem rv_inj {Z Y : RQ} (h : ratQ Z = true) (k : ratQ Y = true) (e : rv Z = rv Y) : Z = Y := by
  have h1 := valid_is h
  have k1 := valid_is k
  have p1 := natQ_pos h1.pos
  have p2 := natQ_pos k1.pos
  unfold rv at e
  have e2 : (zv Z.1.1 Z.1.2 : Rat) * (natV Y.2 : Rat) = (zv Y.1.1 Y.1.2 : Rat) * (natV Z.2 : Rat) := by grind
  exact isR_eq h1 k1 (by exact_mod_cast e2)
section
variable {Z Y : RQ}
theorem cmpV_rat {a b : Int} {x y : Rat} (h1 : a < b ↔ x < y) (h2 : a = b ↔ x = y) : (cmpV a b < 0 ↔ x < y) ∧ (cmpV a b = 0 ↔ x = y) ∧ (0 < cmpV a b ↔ y < x) := by
  unfold cmpV
  rcases Int.lt_trichotomy a b with h | h | h
  · rw [if_pos h]
    have := h1.1 h
    refine ⟨by simp; exact this, by simp; grind, by simp; grind⟩
  · have := h2.1 h
    rw [if_neg (by omega), if_neg (by omega)]
    refine ⟨by simp; grind, by simp; exact this, by simp; grind⟩
  · have n1 : ¬ x < y := fun k => by have := h1.2 k; omega
    have n2 : ¬ x = y := fun k => by have := h2.2 k; omega
    rw [if_neg (by omega), if_pos h]
    refine ⟨by simp; grind, by simp; exact n2, by simp; grind⟩
theorem cmpW_rv (h : ratQ Z = true) (k : ratQ Y = true) : (cmpW Z.1.1 Z.1.2 Z.2 Y.1.1 Y.1.2 Y.2 < 0 ↔ rv Z < rv Y) ∧ (cmpW Z.1.1 Z.1.2 Z.2 Y.1.1 Y.1.2 Y.2 = 0 ↔ rv Z = rv Y) ∧ (0 < cmpW Z.1.1 Z.1.2 Z.2 Y.1.1 Y.1.2 Y.2 ↔ rv Y < rv Z) := by
  have p1 := natQ_pos (valid_is h).pos
  have p2 := natQ_pos (valid_is k).pos
  rw [cmpW_is (valid_is h) (valid_is k)]
  have e1 : rv Z * (natV Z.2 : Rat) = (zv Z.1.1 Z.1.2 : Rat) := by unfold rv; grind
  have e2 : rv Y * (natV Y.2 : Rat) = (zv Y.1.1 Y.1.2 : Rat) := by unfold rv; grind
  have c : ∀ a b : Int, (a < b ↔ (a : Rat) < (b : Rat)) ∧ (a = b ↔ (a : Rat) = (b : Rat)) := fun a b => ⟨by exact_mod_cast Iff.rfl, by exact_mod_cast Iff.rfl⟩
  have m : (0 : Rat) < (natV Z.2 : Rat) * (natV Y.2 : Rat) := Rat.mul_pos p1 p2
  refine cmpV_rat ?_ ?_
  · rw [(c _ _).1]; push_cast
    rw [← e1, ← e2]
    constructor
    · intro hl
      rcases (show rv Z < rv Y ∨ rv Y ≤ rv Z by grind) with q | q
      · exact q
      · have := qmul_nn (show 0 ≤ rv Z - rv Y by grind) (Rat.le_of_lt m); grind
    · intro hl
      have := Rat.mul_pos (show 0 < rv Y - rv Z by grind) m; grind
  · rw [(c _ _).2]; push_cast
    rw [← e1, ← e2]
    constructor
    · intro hl
      rcases (show rv Z < rv Y ∨ rv Y < rv Z ∨ rv Z = rv Y by grind) with q | q | q
      · have := Rat.mul_pos (show 0 < rv Y - rv Z by grind) m; grind
      · have := Rat.mul_pos (show 0 < rv Z - rv Y by grind) m; grind
      · exact q
    · intro hl; rw [hl]; grind
theorem minQ_val (h : ratQ Z = true) (k : ratQ Y = true) : minQ Z Y = if rv Z ≤ rv Y then Z else Y := by
  have hc := cmpW_rv h k
  unfold minQ minR
  rw [show (ratB Z.1.1 Z.1.2 Z.2 && ratB Y.1.1 Y.1.2 Y.2) = true by unfold ratQ at h k; rw [h, k]; rfl, if_pos rfl]
  by_cases hl : rv Z ≤ rv Y
  · rw [if_pos hl, if_pos (by rcases Int.lt_or_le 0 (cmpW Z.1.1 Z.1.2 Z.2 Y.1.1 Y.1.2 Y.2) with q | q; (exact absurd (hc.2.2.1 q) (by grind)); exact q)]
  · rw [if_neg hl, if_neg (by have := hc.2.2.2 (by grind); omega)]
theorem maxQ_val (h : ratQ Z = true) (k : ratQ Y = true) : maxQ Z Y = if rv Y ≤ rv Z then Z else Y := by
  have hc := cmpW_rv h k
  unfold maxQ maxR
  rw [show (ratB Z.1.1 Z.1.2 Z.2 && ratB Y.1.1 Y.1.2 Y.2) = true by unfold ratQ at h k; rw [h, k]; rfl, if_pos rfl]
  by_cases hl : rv Y ≤ rv Z
  · rw [if_pos hl, if_pos (by rcases Int.lt_or_le (cmpW Z.1.1 Z.1.2 Z.2 Y.1.1 Y.1.2 Y.2) 0 with q | q; (exact absurd (hc.1.1 q) (by grind)); exact q)]
  · rw [if_neg hl, if_neg (by have := hc.1.2 (by grind); omega)]
end
/-! ### small fractions: they stay valid -/
/-- the number x as a fraction with parts of at most B -/
def IsV (Z : RQ) (x : Rat) (B : Nat) : Prop := ∃ (z : Int) (d : Nat), IsS Z z d B ∧ x = (z : Rat) / (d : Rat)
section
variable {Z Y : RQ} {x y : Rat} {B C : Nat}
theorem IsV.of {z : Int} {d : Nat} (h : IsS Z z d B) : IsV Z ((z : Rat) / (d : Rat)) B := ⟨z, d, h, rfl⟩
theorem IsV.ok (h : IsV Z x B) : ratQ Z = true := by obtain ⟨z, d, h, _⟩ := h; exact h.valid
theorem IsV.rv (h : IsV Z x B) : rv Z = x := by obtain ⟨z, d, h, e⟩ := h; rw [h.1.rv, e]
theorem IsV.fit (h : IsV Z x B) : QFit Z := by obtain ⟨z, d, h, _⟩ := h; exact h.fit
theorem IsV.mono (h : IsV Z x B) (hB : B ≤ C) : IsV Z x C := by obtain ⟨z, d, ⟨h1, h2, h3⟩, e⟩ := h; exact ⟨z, d, ⟨h1, by omega, by omega⟩, e⟩
theorem IsV.add (h : IsV Z x B) (k : IsV Y y C) (hB : 2 * (B * C) < 1000000000 ^ 24) : IsV (addQ Z Y) (x + y) (2 * (B * C)) := by
  obtain ⟨z, d, h, rfl⟩ := h
  obtain ⟨w, e, k, rfl⟩ := k
  have p1 := natQ_pos h.dpos
  have p2 := natQ_pos k.dpos
  exact ⟨_, _, h.add k hB, by push_cast; grind⟩
theorem IsV.sub (h : IsV Z x B) (k : IsV Y y C) (hB : 2 * (B * C) < 1000000000 ^ 24) : IsV (subQ Z Y) (x - y) (2 * (B * C)) := by
  obtain ⟨z, d, h, rfl⟩ := h
  obtain ⟨w, e, k, rfl⟩ := k
  have p1 := natQ_pos h.dpos
  have p2 := natQ_pos k.dpos
  exact ⟨_, _, h.sub k hB, by push_cast; grind⟩
theorem IsV.mul (h : IsV Z x B) (k : IsV Y y C) (hB : 2 * (B * C) < 1000000000 ^ 24) : IsV (mulQ Z Y) (x * y) (B * C) := by
  obtain ⟨z, d, h, rfl⟩ := h
  obtain ⟨w, e, k, rfl⟩ := k
  have p1 := natQ_pos h.dpos
  have p2 := natQ_pos k.dpos
  exact ⟨_, _, h.mul k hB, by push_cast; grind⟩
theorem IsV.div (h : IsV Z x B) (k : IsV Y y C) (h0 : y ≠ 0) (hB : 2 * (B * C) < 1000000000 ^ 24) : IsV (divQ Z Y) (x / y) (B * C) := by
  obtain ⟨z, d, h, rfl⟩ := h
  obtain ⟨w, e, k, rfl⟩ := k
  have p1 := natQ_pos h.dpos
  have p2 := natQ_pos k.dpos
  have hw : w ≠ 0 := by intro e0; apply h0; rw [e0]; grind
  have hw0 : (w : Rat) ≠ 0 := by exact_mod_cast hw
  have hd := h.dpos
  have he := k.dpos
  have hs : IsS (divQ Z Y) (z * e * (if w < 0 then -1 else 1)) (w.natAbs * d) (B * C) := by
    rw [show divQ Z Y = _ from divR_is h.1 k.1 hw]
    have a1 : (z * (e : Int)).natAbs ≤ B * C := ab_mul h.2.1 (by simpa using k.2.2)
    have a2 : (z * (e : Int) * (if w < 0 then -1 else 1)).natAbs ≤ B * C := by
      split <;> simpa using a1
    have a3 : w.natAbs * d ≤ B * C := by rw [Nat.mul_comm]; exact Nat.mul_le_mul h.2.2 k.2.1
    exact low_S (Nat.mul_pos (by omega) hd) a2 a3 (by omega)
  refine ⟨_, _, hs, ?_⟩
  by_cases hn : w < 0
  · have e1 : ((w.natAbs : Nat) : Rat) = -(w : Rat) := by
      have : ((w.natAbs : Nat) : Int) = -w := by omega
      exact_mod_cast congrArg (Int.cast (R := Rat)) this
    rw [if_pos hn]; push_cast; rw [e1]; grind
  · have e1 : ((w.natAbs : Nat) : Rat) = (w : Rat) := by
      have : ((w.natAbs : Nat) : Int) = w := by omega
      exact_mod_cast congrArg (Int.cast (R := Rat)) this
    rw [if_neg hn]; push_cast; rw [e1]; grind
theorem IsV.min (h : IsV Z x B) (k : IsV Y y C) : IsV (minQ Z Y) (if x ≤ y then x else y) (max B C) := by
  rw [minQ_val h.ok k.ok, h.rv, k.rv]
  split
  · exact h.mono (Nat.le_max_left _ _)
  · exact k.mono (Nat.le_max_right _ _)
theorem IsV.max (h : IsV Z x B) (k : IsV Y y C) : IsV (maxQ Z Y) (if y ≤ x then x else y) (Nat.max B C) := by
  rw [maxQ_val h.ok k.ok, h.rv, k.rv]
  split
  · exact h.mono (Nat.le_max_left _ _)
  · exact k.mono (Nat.le_max_right _ _)
theorem intQ_V (a : Int) (ha : a.natAbs ≤ 1000) : IsV (intQ a) (a : Rat) (max a.natAbs 1) := by
  refine ⟨a, 1, ?_, by grind⟩
  have hp : (1000 : Nat) < 1000000000 ^ 24 := by decide +kernel
  rw [intQ_low a ha]
  exact low_S (by decide) (Nat.le_max_left _ _) (Nat.le_max_right _ _) (by omega)
end
end Go.Proofs.YtafhhemojdblpaaGreat

/-
  The square of the distance from a segment, as the reference takes it: the same fraction. A variable that is stored anew in a region that reads it.
-/

namespace Go.Proofs.YtafhhemojdblpaaGreat
open Go.RowKit
set_option linter.unusedVariables false
theorem intQ_01 : (ratQ (intQ 0) = true ∧ rv (intQ 0) = 0) ∧ (ratQ (intQ 1) = true ∧ rv (intQ 1) = 1) := by
  have h0 := intQ_V 0 (by decide)
  have h1 := intQ_V 1 (by decide)
  exact ⟨⟨h0.ok, by rw [h0.rv]; rfl⟩, h1.ok, by rw [h1.rv]; rfl⟩
theorem sameP_iff {A B : PQ} : sameP A B = true ↔ A = B := by
  unfold sameP sameQ sameR
  simp only [Bool.and_eq_true, decide_eq_true_eq, beq_iff_eq]
  constructor
  · rintro ⟨⟨⟨a, b⟩, c⟩, ⟨d, e⟩, f⟩
    exact Prod.ext (Prod.ext (Prod.ext a b) c) (Prod.ext (Prod.ext d e) f)
  · rintro rfl
    exact ⟨⟨⟨rfl, rfl⟩, rfl⟩, ⟨rfl, rfl⟩, rfl⟩
end Go.Proofs.YtafhhemojdblpaaGreat
