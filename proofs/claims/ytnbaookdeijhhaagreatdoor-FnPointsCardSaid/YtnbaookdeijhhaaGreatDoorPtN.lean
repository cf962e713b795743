/-
  Points said of numbers: which point an operation makes, and that a text gives its vector, its point back.
-/
import Derived.Test.YtnbaookdeijhhaaGreatDoorUT
import Derived.Test.YtnbaookdeijhhaaGreatDoorRTN
import Derived.Test.YtnbaookdeijhhaaGreatDoorRatD
namespace Go.Proofs.YtnbaookdeijhhaaGreatDoor
open Go.RowKit
set_option linter.unusedVariables false
/-- the fraction z over d, small -/
def IsS (Z : RQ) (z : Int) (d B : Nat) : Prop := IsR Z z d ∧ z.natAbs ≤ B ∧ d ≤ B
section
variable {Z Y : RQ} {z y : Int} {d e B C : Nat}
theorem IsS.valid (h : IsS Z z d B) : ratQ Z = true := h.1.2.1
theorem IsS.fit (h : IsS Z z d B) : QFit Z := by rw [h.1.1]; exact lowR_fit _ _
theorem IsS.dpos (h : IsS Z z d B) : 0 < d := h.1.dpos
theorem ab_mul {a b : Int} {B C : Nat} (h : a.natAbs ≤ B) (k : b.natAbs ≤ C) : (a * b).natAbs ≤ B * C := by rw [Int.natAbs_mul]; exact Nat.mul_le_mul h k
theorem IsS.add (h : IsS Z z d B) (k : IsS Y y e C) (hB : 2 * (B * C) < 1000000000 ^ 24) : IsS (addQ Z Y) (z * e + y * d) (d * e) (2 * (B * C)) := by
  obtain ⟨h1, h2, h3⟩ := h
  obtain ⟨k1, k2, k3⟩ := k
  have a1 : (z * (e : Int)).natAbs ≤ B * C := ab_mul h2 (by simpa using k3)
  have a2 : (y * (d : Int)).natAbs ≤ C * B := ab_mul k2 (by simpa using h3)
  rw [Nat.mul_comm C B] at a2
  have a3 : d * e ≤ B * C := Nat.mul_le_mul h3 k3
  rw [show addQ Z Y = lowR (z * e + y * d) (d * e) from addR_is h1 k1]
  exact ⟨isR (Nat.mul_pos h1.dpos k1.dpos) (by omega) (by omega), by omega, by omega⟩
theorem IsS.sub (h : IsS Z z d B) (k : IsS Y y e C) (hB : 2 * (B * C) < 1000000000 ^ 24) : IsS (subQ Z Y) (z * e - y * d) (d * e) (2 * (B * C)) := by
  obtain ⟨h1, h2, h3⟩ := h
  obtain ⟨k1, k2, k3⟩ := k
  have a1 : (z * (e : Int)).natAbs ≤ B * C := ab_mul h2 (by simpa using k3)
  have a2 : (y * (d : Int)).natAbs ≤ C * B := ab_mul k2 (by simpa using h3)
  rw [Nat.mul_comm C B] at a2
  have a3 : d * e ≤ B * C := Nat.mul_le_mul h3 k3
  rw [show subQ Z Y = lowR (z * e - y * d) (d * e) from subR_is h1 k1]
  exact ⟨isR (Nat.mul_pos h1.dpos k1.dpos) (by omega) (by omega), by omega, by omega⟩
theorem IsS.mul (h : IsS Z z d B) (k : IsS Y y e C) (hB : 2 * (B * C) < 1000000000 ^ 24) : IsS (mulQ Z Y) (z * y) (d * e) (B * C) := by
  obtain ⟨h1, h2, h3⟩ := h
  obtain ⟨k1, k2, k3⟩ := k
  have a1 : (z * y).natAbs ≤ B * C := ab_mul h2 k2
  have a3 : d * e ≤ B * C := Nat.mul_le_mul h3 k3
  rw [show mulQ Z Y = lowR (z * y) (d * e) from mulR_is h1 k1]
  exact ⟨isR (Nat.mul_pos h1.dpos k1.dpos) (by omega) (by omega), a1, a3⟩
theorem IsS.sign (h : IsS Z z d B) : signQ Z = cmpV z 0 := signR_is h.1
theorem IsS.eq (h : IsS Z z d B) (k : IsS Y y e C) (he : z * (e : Int) = y * (d : Int)) : Z = Y := isR_eq h.1 k.1 he
theorem low_S {z : Int} {d B : Nat} (h0 : 0 < d) (hz : z.natAbs ≤ B) (hd : d ≤ B) (hB : B < 1000000000 ^ 24) : IsS (lowR z d) z d B := ⟨isR h0 (by omega) (by omega), hz, hd⟩
end
theorem intQ_low (a : Int) (ha : a.natAbs ≤ 1000) : intQ a = lowR a 1 := by
  have hp : (1000 : Nat) < 1000000000 ^ 24 := by decide +kernel
  have hq : (1000 : Nat) < 1000000000 ^ 60 := by decide +kernel
  have hc : capZ a = (decide (a < 0), limbs a.natAbs) := capZ_in (Nat.lt_of_le_of_lt ha hq)
  rw [intQ, hc, lowR, Nat.gcd_one_right, Nat.div_one, Nat.div_one, limbs_one, if_pos ⟨by omega, limbs_len.2 (by omega), by decide⟩]
theorem halfQ_S : IsS halfQ 1 2 2 := by
  rw [show halfQ = lowR 1 2 from ofQ_low 1 2 (by decide) (by decide) (by decide)]
  exact low_S (by decide) (by decide) (by decide) (by decide +kernel)
/-- the point x over d, y over e -/
def IsP (P : PQ) (x : Int) (d : Nat) (y : Int) (e B : Nat) : Prop := IsS P.1 x d B ∧ IsS P.2 y e B
theorem IsP.fit {P : PQ} {x y : Int} {d e B : Nat} (h : IsP P x d y e B) : PFit P := ⟨h.1.fit, h.2.fit⟩
theorem IsP.valid {P : PQ} {x y : Int} {d e B : Nat} (h : IsP P x d y e B) : (ratQ P.1 && ratQ P.2) = true := by rw [h.1.valid, h.2.valid]; rfl
theorem IsP.sure {P : PQ} {x y : Int} {d e B : Nat} (h : IsP P x d y e B) : sureP P = P := by rw [sureP, validP, h.valid]; rfl
theorem cmpV_opp {a b c d : Int} (hc : 0 < c) (hd : 0 < d) (h : a * d = -(b * c)) : cmpV a 0 = -cmpV b 0 := by
  have h1 : a < 0 ↔ 0 < b := by
    constructor
    · intro ha
      have := Int.mul_neg_of_neg_of_pos ha hd
      by_cases hb : 0 < b
      · exact hb
      · have := Int.mul_nonneg (show 0 ≤ -b by omega) (show 0 ≤ c by omega)
        rw [Int.neg_mul] at this; omega
    · intro hb
      have := Int.mul_pos hb hc
      by_cases ha : a < 0
      · exact ha
      · have := Int.mul_nonneg (show 0 ≤ a by omega) (show 0 ≤ d by omega); omega
  have h2 : 0 < a ↔ b < 0 := by
    constructor
    · intro ha
      have := Int.mul_pos ha hd
      by_cases hb : b < 0
      · exact hb
      · have := Int.mul_nonneg (show 0 ≤ b by omega) (show 0 ≤ c by omega); omega
    · intro hb
      have := Int.mul_neg_of_neg_of_pos hb hc
      by_cases ha : 0 < a
      · exact ha
      · have := Int.mul_nonneg (show 0 ≤ -a by omega) (show 0 ≤ d by omega)
        rw [Int.neg_mul] at this; omega
  unfold cmpV
  split <;> (try split) <;> (try split) <;> (try split) <;> omega
section
variable {P Q R : PQ} {px py qx qy rx ry : Int} {pd pe qd qe rd re : Nat}
theorem pts_side (hp : IsP P px pd py pe 1000) (hq : IsP Q qx qd qy qe 1000) (hr : IsP R rx rd ry re 1000) : sideP P Q R = -sideP Q P R := by
  have hB1 : 2 * (1000 * 1000) < 1000000000 ^ 24 := by decide +kernel
  have hB2 : 2 * (2 * (1000 * 1000) * (2 * (1000 * 1000))) < 1000000000 ^ 24 := by decide +kernel
  have hB3 : 2 * (2 * (1000 * 1000) * (2 * (1000 * 1000)) * (2 * (1000 * 1000) * (2 * (1000 * 1000)))) < 1000000000 ^ 24 := by decide +kernel
  have s1 := ((hq.1.sub hp.1 hB1).mul (hr.2.sub hp.2 hB1) hB2).sub ((hq.2.sub hp.2 hB1).mul (hr.1.sub hp.1 hB1) hB2) hB3
  have s2 := ((hp.1.sub hq.1 hB1).mul (hr.2.sub hq.2 hB1) hB2).sub ((hp.2.sub hq.2 hB1).mul (hr.1.sub hq.1 hB1) hB2) hB3
  have e1 : sideP P Q R = _ := s1.sign
  have e2 : sideP Q P R = _ := s2.sign
  rw [e1, e2]
  refine cmpV_opp (c := _) (d := _) (Int.natCast_pos.2 s1.dpos) (Int.natCast_pos.2 s2.dpos) ?_
  simp only [Int.natCast_mul]
  grind
theorem pts_mid (hp : IsP P px pd py pe 1000) (hq : IsP Q qx qd qy qe 1000) : IsP (midP P Q) ((px * qd + qx * pd) * 1) (pd * qd * 2) ((py * qe + qy * pe) * 1) (pe * qe * 2) (2 * (1000 * 1000) * 2) := by
  have hB1 : 2 * (1000 * 1000) < 1000000000 ^ 24 := by decide +kernel
  have hB2 : 2 * (2 * (1000 * 1000) * 2) < 1000000000 ^ 24 := by decide +kernel
  have h : IsP (mulQ (addQ P.1 Q.1) halfQ, mulQ (addQ P.2 Q.2) halfQ) _ _ _ _ _ := ⟨(hp.1.add hq.1 hB1).mul halfQ_S hB2, (hp.2.add hq.2 hB1).mul halfQ_S hB2⟩
  rw [show midP P Q = (mulQ (addQ P.1 Q.1) halfQ, mulQ (addQ P.2 Q.2) halfQ) from h.sure]
  exact h
theorem pts_mid_comm (hp : IsP P px pd py pe 1000) (hq : IsP Q qx qd qy qe 1000) : midP Q P = midP P Q := by
  have h := pts_mid hp hq
  have k := pts_mid hq hp
  have e1 : (midP Q P).1 = (midP P Q).1 := k.1.eq h.1 (by simp only [Int.natCast_mul]; grind)
  have e2 : (midP Q P).2 = (midP P Q).2 := k.2.eq h.2 (by simp only [Int.natCast_mul]; grind)
  exact Prod.ext e1 e2
theorem pts_mid_side (hp : IsP P px pd py pe 1000) (hq : IsP Q qx qd qy qe 1000) : sideP P Q (midP P Q) = 0 := by
  have hm := pts_mid hp hq
  generalize midP P Q = M at hm
  have hB1 : 2 * (1000 * 1000) < 1000000000 ^ 24 := by decide +kernel
  have hB4 : 2 * (2 * (1000 * 1000) * 2 * 1000) < 1000000000 ^ 24 := by decide +kernel
  have hB5 : 2 * (2 * (1000 * 1000) * (2 * (2 * (1000 * 1000) * 2 * 1000))) < 1000000000 ^ 24 := by decide +kernel
  have hB6 : 2 * (2 * (1000 * 1000) * (2 * (2 * (1000 * 1000) * 2 * 1000)) * (2 * (1000 * 1000) * (2 * (2 * (1000 * 1000) * 2 * 1000)))) < 1000000000 ^ 24 := by decide +kernel
  have s1 := ((hq.1.sub hp.1 hB1).mul (hm.2.sub hp.2 hB4) hB5).sub ((hq.2.sub hp.2 hB1).mul (hm.1.sub hp.1 hB4) hB5) hB6
  have e1 : sideP P Q M = _ := s1.sign
  rw [e1]
  have e : ∀ z : Int, z = 0 → cmpV z 0 = 0 := fun z h => by subst h; rfl
  refine e _ ?_
  simp only [Int.natCast_mul]
  grind
theorem pts_mid_dist (hp : IsP P px pd py pe 1000) (hq : IsP Q qx qd qy qe 1000) : distP P (midP P Q) = distP (midP P Q) Q := by
  have hm := pts_mid hp hq
  generalize midP P Q = M at hm
  have hB4 : 2 * (2 * (1000 * 1000) * 2 * 1000) < 1000000000 ^ 24 := by decide +kernel
  have hB4' : 2 * (1000 * (2 * (1000 * 1000) * 2)) < 1000000000 ^ 24 := by decide +kernel
  have hB5 : 2 * (2 * (2 * (1000 * 1000) * 2 * 1000) * (2 * (2 * (1000 * 1000) * 2 * 1000))) < 1000000000 ^ 24 := by decide +kernel
  have hB5' : 2 * (2 * (1000 * (2 * (1000 * 1000) * 2)) * (2 * (1000 * (2 * (1000 * 1000) * 2)))) < 1000000000 ^ 24 := by decide +kernel
  have hB6 : 2 * (2 * (2 * (1000 * 1000) * 2 * 1000) * (2 * (2 * (1000 * 1000) * 2 * 1000)) * (2 * (2 * (1000 * 1000) * 2 * 1000) * (2 * (2 * (1000 * 1000) * 2 * 1000)))) < 1000000000 ^ 24 := by decide +kernel
  have hB6' : 2 * (2 * (1000 * (2 * (1000 * 1000) * 2)) * (2 * (1000 * (2 * (1000 * 1000) * 2))) * (2 * (1000 * (2 * (1000 * 1000) * 2)) * (2 * (1000 * (2 * (1000 * 1000) * 2))))) < 1000000000 ^ 24 := by decide +kernel
  have x1 := hm.1.sub hp.1 hB4
  have y1 := hm.2.sub hp.2 hB4
  have x2 := hq.1.sub hm.1 hB4'
  have y2 := hq.2.sub hm.2 hB4'
  have s1 := (x1.mul x1 hB5).add (y1.mul y1 hB5) hB6
  have s2 := (x2.mul x2 hB5').add (y2.mul y2 hB5') hB6'
  have e : addQ (mulQ (subQ M.1 P.1) (subQ M.1 P.1)) (mulQ (subQ M.2 P.2) (subQ M.2 P.2)) = addQ (mulQ (subQ Q.1 M.1) (subQ Q.1 M.1)) (mulQ (subQ Q.2 M.2) (subQ Q.2 M.2)) := by
    have q1 : (x1.mul x1 hB5).1 = (x1.mul x1 hB5).1 := rfl
    have f1 : mulQ (subQ M.1 P.1) (subQ M.1 P.1) = mulQ (subQ Q.1 M.1) (subQ Q.1 M.1) := (x1.mul x1 hB5).eq (x2.mul x2 hB5') (by simp only [Int.natCast_mul]; grind)
    have f2 : mulQ (subQ M.2 P.2) (subQ M.2 P.2) = mulQ (subQ Q.2 M.2) (subQ Q.2 M.2) := (y1.mul y1 hB5).eq (y2.mul y2 hB5') (by simp only [Int.natCast_mul]; grind)
    rw [f1, f2]
  exact e
theorem pts_move (hp : IsP P px pd py pe 1000) {x y : Int} (hx : x.natAbs ≤ 1000) (hy : y.natAbs ≤ 1000) : moveP (moveP P x y) (-x) (-y) = P ∧ PFit (moveP P x y) := by
  have hp1 : (1000 : Nat) < 1000000000 ^ 24 := by decide +kernel
  have ix : IsS (intQ x) x 1 1000 := by rw [intQ_low x hx]; exact low_S (by decide) hx (by decide) hp1
  have iy : IsS (intQ y) y 1 1000 := by rw [intQ_low y hy]; exact low_S (by decide) hy (by decide) hp1
  have ix' : IsS (intQ (-x)) (-x) 1 1000 := by rw [intQ_low (-x) (by omega)]; exact low_S (by decide) (by omega) (by decide) hp1
  have iy' : IsS (intQ (-y)) (-y) 1 1000 := by rw [intQ_low (-y) (by omega)]; exact low_S (by decide) (by omega) (by decide) hp1
  have hB1 : 2 * (1000 * 1000) < 1000000000 ^ 24 := by decide +kernel
  have hB2 : 2 * (2 * (1000 * 1000) * 1000) < 1000000000 ^ 24 := by decide +kernel
  have h : IsP (addQ P.1 (intQ x), addQ P.2 (intQ y)) _ _ _ _ _ := ⟨hp.1.add ix hB1, hp.2.add iy hB1⟩
  have e : moveP P x y = (addQ P.1 (intQ x), addQ P.2 (intQ y)) := h.sure
  have k : IsP (addQ (addQ P.1 (intQ x)) (intQ (-x)), addQ (addQ P.2 (intQ y)) (intQ (-y))) _ _ _ _ _ := ⟨h.1.add ix' hB2, h.2.add iy' hB2⟩
  have e2 : moveP (moveP P x y) (-x) (-y) = (addQ (addQ P.1 (intQ x)) (intQ (-x)), addQ (addQ P.2 (intQ y)) (intQ (-y))) := by rw [e]; exact k.sure
  refine ⟨?_, by rw [e]; exact h.fit⟩
  rw [e2]
  exact Prod.ext (k.1.eq hp.1 (by simp only [Int.natCast_mul]; grind)) (k.2.eq hp.2 (by simp only [Int.natCast_mul]; grind))
end
/-! ### texts -/
theorem no_comma {s : ByteArray} (h : cntC s = 0) : ∀ j (h : j < s.size), s[j] ≠ 44 := fun j hj e => by
  have := cnt_posC hj e; omega
theorem cut_join {a b : ByteArray} (h : cntC a = 0) : headBC ((a ++ ⟨#[44]⟩) ++ b) = a ∧ tailBC ((a ++ ⟨#[44]⟩) ++ b) = b := by
  have hn := no_comma h
  have hs : (a ++ ⟨#[44]⟩ ++ b).size = a.size + 1 + b.size := by rw [ByteArray.size_append, ByteArray.size_append]; rfl
  have hp : a.size < (a ++ ⟨#[44]⟩ ++ b).size := by omega
  have hsl : (a ++ (⟨#[44]⟩ : ByteArray)).size = a.size + 1 := by rw [ByteArray.size_append]; rfl
  obtain ⟨c1, c2, c3⟩ := cut_someC hp
    (by rw [ByteArray.getElem_append_left (by omega), ByteArray.getElem_append_right (by omega)]; simp only [Nat.sub_self]; rfl)
    (fun j hj hjp => by rw [ByteArray.getElem_append_left (by omega), ByteArray.getElem_append_left hjp]; exact hn j hjp)
  have e1 : (a ++ ⟨#[44]⟩ ++ b).extract 0 a.size = a := by
    apply ByteArray.ext; simp
  have e2 : (a ++ ⟨#[44]⟩ ++ b).extract (a.size + 1) (a ++ ⟨#[44]⟩ ++ b).size = b := by
    apply ByteArray.ext
    apply Array.ext'
    have l1 : (a.data.toList ++ [44]).length = a.size + 1 := by simp
    have l2 : (a ++ ⟨#[44]⟩ ++ b).size = (a.data.toList ++ [44] ++ b.data.toList).length := by rw [hs]; simp; omega
    show ((a ++ ⟨#[44]⟩ ++ b).extract (a.size + 1) (a ++ ⟨#[44]⟩ ++ b).size).data.toList = b.data.toList
    rw [l2]
    simp only [ByteArray.data_extract, ByteArray.data_append, Array.toList_extract, Array.toList_append, List.extract_eq_take_drop]
    rw [← l1, List.drop_left' rfl]
    exact List.take_of_length_le (by simp; omega)
  exact ⟨c1.trans e1, c2.trans e2⟩
theorem parse_fmtP {P : PQ} (h : (ratQ P.1 && ratQ P.2) = true) : parP (fmtP P) = P ∧ okP (fmtP P) = true := by
  have h1 : ratB P.1.1.1 P.1.1.2 P.1.2 = true := by simp only [Bool.and_eq_true] at h; exact h.1
  have h2 : ratB P.2.1.1 P.2.1.2 P.2.2 = true := by simp only [Bool.and_eq_true] at h; exact h.2
  obtain ⟨a1, a2⟩ := parse_fmtR h1
  obtain ⟨b1, b2⟩ := parse_fmtR h2
  obtain ⟨c1, c2⟩ := cut_join (a := fmtR P.1.1.1 P.1.1.2 P.1.2) (b := fmtR P.2.1.1 P.2.1.2 P.2.2) (cntC_fmtR _ _ _)
  have ho : okP (fmtP P) = true := by rw [okP, fmtP_ok h, c1, c2, a2, b2]; rfl
  exact ⟨by rw [parP, ho, if_pos rfl, fmtP_ok h, c1, c2, a1, b1], ho⟩
theorem parse_fmtV {x y : Int} (h : vecB x y = true) : parV (fmtV x y) = (x, y) ∧ okV (fmtV x y) = true := by
  have hb : -1000 ≤ x ∧ x ≤ 1000 ∧ -1000 ≤ y ∧ y ≤ 1000 := by unfold vecB at h; simp at h; omega
  obtain ⟨a1, a2⟩ := parse_some (s := itoaB x) (n := x) (by omega) (by omega) rfl
  obtain ⟨b1, b2⟩ := parse_some (s := itoaB y) (n := y) (by omega) (by omega) rfl
  obtain ⟨c1, c2⟩ := cut_join (a := itoaB x) (b := itoaB y) (cntC_itoa _)
  have ho : okV (fmtV x y) = true := by rw [okV, fmtV_ok h, c1, c2, a1, b1, a2, b2, h]; rfl
  exact ⟨by rw [parV, ho, if_pos rfl, fmtV_ok h, c1, c2, a2, b2], ho⟩
end Go.Proofs.YtnbaookdeijhhaaGreatDoor
