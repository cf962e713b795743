/-
  Lehmer's way to the greatest common divisor, as mathematics. Of no program.
-/
import Derived.Test.YtalcknddegfkaaaDoorNatI8
namespace Go.Proofs.YtalcknddegfkaaaDoor
open Go.RowKit
set_option linter.unusedVariables false

theorem gcd_unimod {a b A1 A2 : Nat} {a1 b1 a2 b2 : Int} (e1 : (A1 : Int) = a1 * a + b1 * b) (e2 : (A2 : Int) = a2 * a + b2 * b) (hd : a1 * b2 - a2 * b1 = 1 ∨ a1 * b2 - a2 * b1 = -1) : Nat.gcd A1 A2 = Nat.gcd a b := by
  have f1 : b2 * (A1 : Int) - b1 * A2 = (a1 * b2 - a2 * b1) * a := by
    rw [e1, e2, Int.sub_mul, Int.mul_add, Int.mul_add, Int.mul_comm a1 b2, Int.mul_comm a2 b1, Int.mul_assoc, Int.mul_assoc, ← Int.mul_assoc b2 b1, ← Int.mul_assoc b1 b2, Int.mul_comm b1 b2]
    omega
  have f2 : a1 * (A2 : Int) - a2 * A1 = (a1 * b2 - a2 * b1) * b := by
    rw [e1, e2, Int.sub_mul, Int.mul_add, Int.mul_add, ← Int.mul_assoc a1 a2, ← Int.mul_assoc a2 a1, Int.mul_comm a2 a1, ← Int.mul_assoc, ← Int.mul_assoc]
    omega
  have up : ∀ d : Nat, d ∣ a → d ∣ b → d ∣ A1 ∧ d ∣ A2 := fun d ha hb => by
    have ha' := Int.natCast_dvd_natCast.2 ha
    have hb' := Int.natCast_dvd_natCast.2 hb
    constructor
    · apply Int.natCast_dvd_natCast.1
      rw [e1]; exact Int.dvd_add (Int.dvd_trans ha' (Int.dvd_mul_left _ _)) (Int.dvd_trans hb' (Int.dvd_mul_left _ _))
    · apply Int.natCast_dvd_natCast.1
      rw [e2]; exact Int.dvd_add (Int.dvd_trans ha' (Int.dvd_mul_left _ _)) (Int.dvd_trans hb' (Int.dvd_mul_left _ _))
  have down : ∀ d : Nat, d ∣ A1 → d ∣ A2 → d ∣ a ∧ d ∣ b := fun d h1 h2 => by
    have h1' := Int.natCast_dvd_natCast.2 h1
    have h2' := Int.natCast_dvd_natCast.2 h2
    have g1 : (d : Int) ∣ (a1 * b2 - a2 * b1) * a := by
      rw [← f1]; exact Int.dvd_sub (Int.dvd_trans h1' (Int.dvd_mul_left _ _)) (Int.dvd_trans h2' (Int.dvd_mul_left _ _))
    have g2 : (d : Int) ∣ (a1 * b2 - a2 * b1) * b := by
      rw [← f2]; exact Int.dvd_sub (Int.dvd_trans h2' (Int.dvd_mul_left _ _)) (Int.dvd_trans h1' (Int.dvd_mul_left _ _))
    rcases hd with hd | hd
    · rw [hd, Int.one_mul] at g1 g2
      exact ⟨Int.natCast_dvd_natCast.1 g1, Int.natCast_dvd_natCast.1 g2⟩
    · rw [hd, Int.neg_mul, Int.one_mul, Int.dvd_neg] at g1 g2
      exact ⟨Int.natCast_dvd_natCast.1 g1, Int.natCast_dvd_natCast.1 g2⟩
  apply Nat.dvd_antisymm
  · obtain ⟨h1, h2⟩ := down _ (Nat.gcd_dvd_left A1 A2) (Nat.gcd_dvd_right A1 A2)
    exact Nat.dvd_gcd h1 h2
  · obtain ⟨h1, h2⟩ := up _ (Nat.gcd_dvd_left a b) (Nat.gcd_dvd_right a b)
    exact Nat.dvd_gcd h1 h2

/-- signs and determinant: they alternate -/
def Sg (a1 b1 a2 b2 : Int) : Prop := (0 ≤ a1 ∧ b1 ≤ 0 ∧ a2 ≤ 0 ∧ 0 ≤ b2 ∧ a1 * b2 - a2 * b1 = 1) ∨ (a1 ≤ 0 ∧ 0 ≤ b1 ∧ 0 ≤ a2 ∧ b2 ≤ 0 ∧ a1 * b2 - a2 * b1 = -1)
/-- at least one step is done -/
structure Going (x y a1 b1 a2 b2 : Int) : Prop where
  a0 : 0 ≤ y + a2
  a1' : y + a2 < x + a1
  b0 : 0 ≤ y + b2
  b1' : y + b2 < x + b1
  n1 : b1 ≠ 0
  n2 : b2 ≠ 0
structure Cof (X Y x y a1 b1 a2 b2 : Int) : Prop where
  ex : x = a1 * X + b1 * Y
  ey : y = a2 * X + b2 * Y
  sg : Sg a1 b1 a2 b2
  st : (x = X ∧ y = Y ∧ a1 = 1 ∧ b1 = 0 ∧ a2 = 0 ∧ b2 = 1) ∨ (Going x y a1 b1 a2 b2 ∧ ∀ K α β : Int, 0 ≤ α → α < K → 0 ≤ β → β < K → a1 * (X * K + α) + b1 * (Y * K + β) ≤ Y * K + β)
  c1 : -1000000000 ≤ a1 ∧ a1 ≤ 1000000000 ∧ -1000000000 ≤ b1 ∧ b1 ≤ 1000000000
theorem Cof.start (X Y : Int) : Cof X Y X Y 1 0 0 1 := ⟨by omega, by omega, .inl (by omega), .inl ⟨rfl, rfl, rfl, rfl, rfl, rfl⟩, by omega⟩
theorem sq_bound {u v : Int} (h0 : 0 ≤ u) (h1 : u ≤ v) (h2 : u * v < 1000000000000000000) : u ≤ 1000000000 := by
  rcases Int.lt_or_le 1000000000 u with h | h
  · have a := Int.mul_le_mul_of_nonneg_right (show 1000000000 ≤ u by omega) (show 0 ≤ v by omega)
    omega
  · exact h
theorem Going.signs {x y a1 b1 a2 b2 : Int} (h : Going x y a1 b1 a2 b2) (s : Sg a1 b1 a2 b2) : 0 ≤ y ∧ y < x := by
  obtain ⟨h1, h2, h3, h4, _, _⟩ := h
  rcases s with ⟨s1, s2, s3, s4, _⟩ | ⟨s1, s2, s3, s4, _⟩ <;> omega
/-- the two numbers, told by the later ones -/
theorem Cof.back {X Y x y a1 b1 a2 b2 : Int} (h : Cof X Y x y a1 b1 a2 b2) : b2 * x - b1 * y = (a1 * b2 - a2 * b1) * X ∧ a1 * y - a2 * x = (a1 * b2 - a2 * b1) * Y := by
  rw [h.ex, h.ey]
  constructor
  · rw [Int.sub_mul, Int.mul_add, Int.mul_add, Int.mul_comm a1 b2, Int.mul_comm a2 b1, Int.mul_assoc, Int.mul_assoc, ← Int.mul_assoc b2 b1, ← Int.mul_assoc b1 b2, Int.mul_comm b1 b2]
    omega
  · rw [Int.sub_mul, Int.mul_add, Int.mul_add, ← Int.mul_assoc a1 a2, ← Int.mul_assoc a2 a1, Int.mul_comm a2 a1, ← Int.mul_assoc, ← Int.mul_assoc]
    omega
theorem Cof.c2 {X Y x y a1 b1 a2 b2 : Int} (h : Cof X Y x y a1 b1 a2 b2) (hX : X < 1000000000000000000) (hY : Y ≤ X) : -1000000000 ≤ a2 ∧ a2 ≤ 1000000000 ∧ -1000000000 ≤ b2 ∧ b2 ≤ 1000000000 := by
  rcases h.st with ⟨_, _, _, _, e3, e4⟩ | ⟨g, _⟩
  · omega
  · obtain ⟨k1, k2⟩ := h.back
    obtain ⟨y0, yx⟩ := g.signs h.sg
    obtain ⟨h1, h2, h3, h4, _, _⟩ := g
    rcases h.sg with ⟨s1, s2, s3, s4, dt⟩ | ⟨s1, s2, s3, s4, dt⟩
    · rw [dt, Int.one_mul] at k1 k2
      have p1 : b1 * y ≤ 0 := Int.mul_nonpos_of_nonpos_of_nonneg s2 y0
      have p2 : 0 ≤ a1 * y := Int.mul_nonneg s1 y0
      have q1 : b2 ≤ 1000000000 := sq_bound (v := x) s4 (by omega) (by omega)
      have e : -a2 * x = -(a2 * x) := Int.neg_mul ..
      have q2 : -a2 ≤ 1000000000 := sq_bound (v := x) (by omega) (by omega) (by omega)
      omega
    · rw [dt, Int.neg_mul, Int.one_mul] at k1 k2
      have p1 : 0 ≤ b1 * y := Int.mul_nonneg s2 y0
      have p2 : a1 * y ≤ 0 := Int.mul_nonpos_of_nonpos_of_nonneg s1 y0
      have e : -b2 * x = -(b2 * x) := Int.neg_mul ..
      have q1 : -b2 ≤ 1000000000 := sq_bound (v := x) (by omega) (by omega) (by omega)
      have q2 : a2 ≤ 1000000000 := sq_bound (v := x) s3 (by omega) (by omega)
      omega
/-- what the later numbers are behind the leading limbs -/
theorem Going.behind {x y a1 b1 a2 b2 K α β : Int} (g : Going x y a1 b1 a2 b2) (s : Sg a1 b1 a2 b2) (h0 : 0 ≤ α) (h1 : α < K) (h2 : 0 ≤ β) (h3 : β < K) : 0 ≤ y * K + a2 * α + b2 * β ∧ y * K + a2 * α + b2 * β < x * K + a1 * α + b1 * β := by
  obtain ⟨g1, g2, g3, g4, _, _⟩ := g
  have hK : 0 < K := by omega
  rcases s with ⟨s1, s2, s3, s4, _⟩ | ⟨s1, s2, s3, s4, _⟩
  · constructor
    · have p1 : a2 * K ≤ a2 * α := Int.mul_le_mul_of_nonpos_left s3 (by omega)
      have p2 : 0 ≤ b2 * β := Int.mul_nonneg s4 h2
      have p3 : 0 ≤ (y + a2) * K := Int.mul_nonneg g1 (by omega)
      rw [Int.add_mul] at p3
      omega
    · have p1 : (b1 - b2) * K ≤ (b1 - b2) * β := Int.mul_le_mul_of_nonpos_left (by omega) (by omega)
      have p2 : 0 ≤ (a1 - a2) * α := Int.mul_nonneg (by omega) h0
      have p3 : 0 < (x - y + (b1 - b2)) * K := Int.mul_pos (by omega) hK
      rw [Int.add_mul, Int.sub_mul x y] at p3
      rw [Int.sub_mul b1 b2 β] at p1
      rw [Int.sub_mul] at p2
      omega
  · constructor
    · have p1 : b2 * K ≤ b2 * β := Int.mul_le_mul_of_nonpos_left s4 (by omega)
      have p2 : 0 ≤ a2 * α := Int.mul_nonneg s3 h0
      have p3 : 0 ≤ (y + b2) * K := Int.mul_nonneg g3 (by omega)
      rw [Int.add_mul] at p3
      omega
    · have p1 : (a1 - a2) * K ≤ (a1 - a2) * α := Int.mul_le_mul_of_nonpos_left (by omega) (by omega)
      have p2 : 0 ≤ (b1 - b2) * β := Int.mul_nonneg (by omega) h2
      have p3 : 0 < (x - y + (a1 - a2)) * K := Int.mul_pos (by omega) hK
      rw [Int.add_mul, Int.sub_mul x y] at p3
      rw [Int.sub_mul a1 a2 α] at p1
      rw [Int.sub_mul] at p2
      omega
theorem comb_eq (a b X Y K α β : Int) : a * (X * K + α) + b * (Y * K + β) = (a * X + b * Y) * K + a * α + b * β := by
  rw [Int.mul_add, Int.mul_add, Int.add_mul, Int.mul_assoc, Int.mul_assoc]; omega

theorem Cof.nonneg {X Y x y a1 b1 a2 b2 : Int} (h : Cof X Y x y a1 b1 a2 b2) (h0 : 0 ≤ Y) : 0 ≤ y + a2 ∧ 0 ≤ y + b2 ∧ 0 ≤ y ∧ 0 ≤ x + a1 ∧ 0 ≤ x + b1 ∨ X < Y := by
  rcases h.st with ⟨e1, e2, e3, e4, e5, e6⟩ | ⟨g, _⟩
  · rcases Int.lt_or_le X Y with h' | h'
    · exact .inr h'
    · exact .inl (by omega)
  · obtain ⟨y0, yx⟩ := g.signs h.sg
    obtain ⟨g1, g2, g3, g4, _, _⟩ := g
    exact .inl (by omega)
/-- one step of Euclid's, sure behind the leading limbs -/
theorem Cof.next {X Y x y a1 b1 a2 b2 q : Int} (h : Cof X Y x y a1 b1 a2 b2) (hX : X < 1000000000000000000) (hY : Y ≤ X) (hY0 : 0 ≤ Y) (hp1 : 0 < y + a2) (hp2 : 0 < y + b2) (hq1 : (x + a1) / (y + a2) = q) (hq2 : (x + b1) / (y + b2) = q) :
    Cof X Y y (x - q * y) a2 b2 (a1 - q * a2) (b1 - q * b2) ∧ 0 ≤ x - q * y ∧ x - q * y < y ∧ -2000000000 ≤ q * a2 ∧ q * a2 ≤ 2000000000 ∧ -2000000000 ≤ q * b2 ∧ q * b2 ≤ 2000000000 ∧ 0 ≤ q * y ∧ q * y ≤ x := by
  have d1 := Int.mul_ediv_add_emod (x + a1) (y + a2)
  have m1 := Int.emod_nonneg (x + a1) (show y + a2 ≠ 0 by omega)
  have m2 := Int.emod_lt_of_pos (x + a1) hp1
  have d2 := Int.mul_ediv_add_emod (x + b1) (y + b2)
  have m3 := Int.emod_nonneg (x + b1) (show y + b2 ≠ 0 by omega)
  have m4 := Int.emod_lt_of_pos (x + b1) hp2
  rw [hq1, Int.mul_comm, Int.mul_add] at d1
  rw [hq2, Int.mul_comm, Int.mul_add] at d2
  generalize (x + a1) % (y + a2) = r1 at *
  generalize (x + b1) % (y + b2) = r2 at *
  have hc2 := h.c2 hX hY
  have hq : 1 ≤ q := by
    rw [← hq1]
    refine (Int.le_ediv_iff_mul_le hp1).2 ?_
    rcases h.st with ⟨e1, e2, e3, e4, e5, e6⟩ | ⟨g, _⟩
    · omega
    · have := g.a1'; omega
  have hsg : Sg a2 b2 (a1 - q * a2) (b1 - q * b2) := by
    have dt : a2 * (b1 - q * b2) - (a1 - q * a2) * b2 = -(a1 * b2 - a2 * b1) := by
      rw [Int.mul_sub, Int.sub_mul, Int.mul_assoc q a2 b2, Int.mul_left_comm a2 q b2]; omega
    rcases h.sg with ⟨s1, s2, s3, s4, e⟩ | ⟨s1, s2, s3, s4, e⟩
    · have p1 : q * a2 ≤ 0 := Int.mul_nonpos_of_nonneg_of_nonpos (by omega) s3
      have p2 : 0 ≤ q * b2 := Int.mul_nonneg (by omega) s4
      exact .inr ⟨s3, s4, by omega, by omega, by rw [dt, e]⟩
    · have p1 : 0 ≤ q * a2 := Int.mul_nonneg (by omega) s3
      have p2 : q * b2 ≤ 0 := Int.mul_nonpos_of_nonneg_of_nonpos (by omega) s4
      exact .inl ⟨s3, s4, by omega, by omega, by rw [dt, e]; rfl⟩
  have hb2 : b2 ≠ 0 := by
    rcases h.st with ⟨e1, e2, e3, e4, e5, e6⟩ | ⟨g, _⟩
    · omega
    · exact g.n2
  have hn2 : b1 - q * b2 ≠ 0 := by
    rcases h.sg with ⟨s1, s2, s3, s4, e⟩ | ⟨s1, s2, s3, s4, e⟩
    · have : 1 * b2 ≤ q * b2 := Int.mul_le_mul_of_nonneg_right hq s4
      omega
    · have : q * b2 ≤ 1 * b2 := Int.mul_le_mul_of_nonpos_right hq s4
      omega
  have hgo : Going y (x - q * y) a2 b2 (a1 - q * a2) (b1 - q * b2) := ⟨by omega, by omega, by omega, by omega, hb2, hn2⟩
  have hcof : Cof X Y y (x - q * y) a2 b2 (a1 - q * a2) (b1 - q * b2) := by
    refine ⟨h.ey, ?_, hsg, .inr ⟨hgo, fun K α β h0 h1 h2 h3 => ?_⟩, hc2⟩
    · rw [h.ex, h.ey, Int.mul_add, Int.sub_mul, Int.sub_mul, Int.mul_assoc, Int.mul_assoc]; omega
    · rw [comb_eq, ← h.ey]
      rcases h.st with ⟨e1, e2, e3, e4, e5, e6⟩ | ⟨g, hle⟩
      · subst e1 e2 e5 e6; omega
      · have := (g.behind h.sg h0 h1 h2 h3).2
        have h5 := hle K α β h0 h1 h2 h3
        rw [comb_eq, ← h.ex] at h5
        omega
  obtain ⟨y0, yx⟩ := hgo.signs hsg
  have hc3 := hcof.c2 hX hY
  have hc1 := h.c1
  have hyy : 0 ≤ y := by omega
  have hqy : 0 ≤ q * y := Int.mul_nonneg (by omega) hyy
  exact ⟨hcof, y0, yx, by omega, by omega, by omega, by omega, hqy, by omega⟩
/-- what the cofactors give, used on the numbers themselves -/
theorem Cof.use {X Y x y a1 b1 a2 b2 : Int} (h : Cof X Y x y a1 b1 a2 b2) (hn : b1 ≠ 0) {a b : Nat} {K α β : Int} (ha : (a : Int) = X * K + α) (hb : (b : Int) = Y * K + β) (h0 : 0 ≤ α) (h1 : α < K) (h2 : 0 ≤ β) (h3 : β < K) :
    ∃ A1 A2 : Nat, (A1 : Int) = a1 * a + b1 * b ∧ (A2 : Int) = a2 * a + b2 * b ∧ Nat.gcd A1 A2 = Nat.gcd a b ∧ A2 < A1 ∧ A1 ≤ b := by
  rcases h.st with ⟨e1, e2, e3, e4, e5, e6⟩ | ⟨g, hle⟩
  · exact absurd e4 hn
  · obtain ⟨k1, k2⟩ := g.behind h.sg h0 h1 h2 h3
    have h5 := hle K α β h0 h1 h2 h3
    have q1 := comb_eq a1 b1 X Y K α β
    have q2 := comb_eq a2 b2 X Y K α β
    rw [← h.ex, ← ha, ← hb] at q1
    rw [← h.ey, ← ha, ← hb] at q2
    rw [← ha, ← hb] at h5
    refine ⟨(a1 * a + b1 * b).toNat, (a2 * a + b2 * b).toNat, by omega, by omega, gcd_unimod (a1 := a1) (b1 := b1) (a2 := a2) (b2 := b2) (by omega) (by omega) ?_, by omega, by omega⟩
    rcases h.sg with ⟨_, _, _, _, dt⟩ | ⟨_, _, _, _, dt⟩
    · exact .inl dt
    · exact .inr dt
theorem Cof.xle {X Y x y a1 b1 a2 b2 : Int} (h : Cof X Y x y a1 b1 a2 b2) (hY : Y ≤ X) : x ≤ X ∧ y ≤ X := by
  rcases h.st with ⟨e1, e2, _⟩ | ⟨g, _⟩
  · omega
  · obtain ⟨k1, k2⟩ := h.back
    obtain ⟨y0, yx⟩ := g.signs h.sg
    have n2 := g.n2
    suffices x ≤ X by omega
    rcases h.sg with ⟨s1, s2, s3, s4, dt⟩ | ⟨s1, s2, s3, s4, dt⟩
    · rw [dt, Int.one_mul] at k1
      have p1 : b1 * y ≤ 0 := Int.mul_nonpos_of_nonpos_of_nonneg s2 y0
      have p2 : 1 * x ≤ b2 * x := Int.mul_le_mul_of_nonneg_right (by omega) (by omega)
      omega
    · rw [dt, Int.neg_mul, Int.one_mul] at k1
      have p1 : 0 ≤ b1 * y := Int.mul_nonneg s2 y0
      have p2 : b2 * x ≤ -1 * x := Int.mul_le_mul_of_nonneg_right (by omega) (by omega)
      omega
end Go.Proofs.YtalcknddegfkaaaDoor
