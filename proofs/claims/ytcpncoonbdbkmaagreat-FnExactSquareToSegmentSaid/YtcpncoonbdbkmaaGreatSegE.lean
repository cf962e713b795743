/-
  The square of the distance from a segment, as the reference takes it: the same fraction. A variable that is stored anew in a region that reads it.
-/
import Derived.Test.YtcpncoonbdbkmaaGreatSegV
namespace Go.Proofs.YtcpncoonbdbkmaaGreat
open Go.RowKit
set_option linter.unusedVariables false
def sqR (P A B : PQ) : RQ := if signQ (distP A B) = 0 then addQ (mulQ (distP A B) (distP A B)) (distP P A) else distP P (wayP A B (minQ (maxQ (divQ (innP A B P) (distP A B)) (intQ 0)) (intQ 1)))
theorem sq_ok {Z Y : RQ} (h : ratQ (addQ Z Y) = true) : ratQ Z = true ∧ ratQ Y = true ∧ rv (addQ Z Y) = rv Z + rv Y := by
  have hz : ratQ Z = true := by
    cases hz : ratQ Z
    · rw [addQ_no (.inl hz), noR_bad] at h; cases h
    · rfl
  have hy : ratQ Y = true := by
    cases hy : ratQ Y
    · rw [addQ_no (.inr hy), noR_bad] at h; cases h
    · rfl
  refine ⟨hz, hy, ?_⟩
  rcases addQ_val hz hy with e | e
  · rw [e, noR_bad] at h; cases h
  · exact e.2
theorem sub_ok {Z Y : RQ} (h : ratQ (subQ Z Y) = true) : ratQ Z = true ∧ ratQ Y = true ∧ rv (subQ Z Y) = rv Z - rv Y := by
  have hz : ratQ Z = true := by
    cases hz : ratQ Z
    · rw [subQ_no (.inl hz), noR_bad] at h; cases h
    · rfl
  have hy : ratQ Y = true := by
    cases hy : ratQ Y
    · rw [subQ_no (.inr hy), noR_bad] at h; cases h
    · rfl
  refine ⟨hz, hy, ?_⟩
  rcases subQ_val hz hy with e | e
  · rw [e, noR_bad] at h; cases h
  · exact e.2
theorem mul_okQ {Z Y : RQ} (h : ratQ (mulQ Z Y) = true) : ratQ Z = true ∧ ratQ Y = true ∧ rv (mulQ Z Y) = rv Z * rv Y := by
  have hz : ratQ Z = true := by
    cases hz : ratQ Z
    · rw [mulQ_no (.inl hz), noR_bad] at h; cases h
    · rfl
  have hy : ratQ Y = true := by
    cases hy : ratQ Y
    · rw [mulQ_no (.inr hy), noR_bad] at h; cases h
    · rfl
  refine ⟨hz, hy, ?_⟩
  rcases mulQ_val hz hy with e | e
  · rw [e, noR_bad] at h; cases h
  · exact e.2
/-- a distance that can be told: both points are valid, and its number -/
theorem dist_ok {P Q : PQ} (h : ratQ (distP P Q) = true) : (ratQ P.1 = true ∧ ratQ P.2 = true) ∧ (ratQ Q.1 = true ∧ ratQ Q.2 = true) ∧ rv (distP P Q) = (rv Q.1 - rv P.1) * (rv Q.1 - rv P.1) + (rv Q.2 - rv P.2) * (rv Q.2 - rv P.2) := by
  obtain ⟨h1, h2, e⟩ := sq_ok h
  obtain ⟨a1, _, e1⟩ := mul_okQ h1
  obtain ⟨b1, _, e2⟩ := mul_okQ h2
  obtain ⟨c1, c2, e3⟩ := sub_ok a1
  obtain ⟨d1, d2, e4⟩ := sub_ok b1
  exact ⟨⟨c2, d2⟩, ⟨c1, d1⟩, by unfold distP; rw [e, e1, e2, e3, e4]⟩
/-- a result is a valid fraction or none -/
theorem addQ_or (Z Y : RQ) : ratQ (addQ Z Y) = true ∨ addQ Z Y = noR := by
  cases hz : ratQ Z
  · exact .inr (addQ_no (.inl hz))
  · cases hy : ratQ Y
    · exact .inr (addQ_no (.inr hy))
    · rcases addQ_val hz hy with e | e
      · exact .inr e
      · exact .inl e.1
theorem divQ_or (Z Y : RQ) : ratQ (divQ Z Y) = true ∨ divQ Z Y = noR := by
  cases hz : ratQ Z
  · exact .inr (divQ_no (.inl hz))
  · cases hy : ratQ Y
    · exact .inr (divQ_no (.inr hy))
    · by_cases h0 : rv Y = 0
      · exact .inr (divQ_zero h0)
      · rcases divQ_val hz hy h0 with e | e
        · exact .inr e
        · exact .inl e.1
theorem intQ_01 : (ratQ (intQ 0) = true ∧ rv (intQ 0) = 0) ∧ (ratQ (intQ 1) = true ∧ rv (intQ 1) = 1) := by
  have h0 := intQ_V 0 (by decide)
  have h1 := intQ_V 1 (by decide)
  exact ⟨⟨h0.ok, by rw [h0.rv]; rfl⟩, h1.ok, by rw [h1.rv]; rfl⟩
theorem part_ref (t : RQ) (ht : ratQ t = true ∨ t = noR) : minQ (maxQ t (intQ 0)) (intQ 1) = partQ t := by
  obtain ⟨⟨a0, b0⟩, a1, b1⟩ := intQ_01
  rcases ht with ht | rfl
  · unfold partQ
    by_cases c1 : rv t ≤ 1
    · have e1 : minQ t (intQ 1) = t := by rw [minQ_val ht a1, if_pos (by rw [b1]; exact c1)]
      rw [e1]
      by_cases c0 : 0 ≤ rv t
      · have e2 : maxQ t (intQ 0) = t := by rw [maxQ_val ht a0, if_pos (by rw [b0]; exact c0)]
        rw [e2, e1, maxQ_val a0 ht]
        split
        · rename_i h
          rw [b0] at h
          exact rv_inj ht a0 (by rw [b0]; grind)
        · rfl
      · have e2 : maxQ t (intQ 0) = intQ 0 := by rw [maxQ_val ht a0, if_neg (by rw [b0]; exact c0)]
        rw [e2, minQ_val a0 a1, if_pos (by rw [b0, b1]; grind), maxQ_val a0 ht, if_pos (by rw [b0]; grind)]
    · have e1 : minQ t (intQ 1) = intQ 1 := by rw [minQ_val ht a1, if_neg (by rw [b1]; exact c1)]
      have e2 : maxQ t (intQ 0) = t := by rw [maxQ_val ht a0, if_pos (by rw [b0]; grind)]
      rw [e2, e1, maxQ_val a0 a1, if_neg (by rw [b0, b1]; grind)]
  · unfold partQ
    rw [maxQ_no (.inl noR_bad), minQ_no (.inl noR_bad), maxQ_no (.inr noR_bad)]
theorem way_no (A B : PQ) : wayP A B noR = (noR, noR) := by
  unfold wayP
  rw [mulQ_no (.inl noR_bad), mulQ_no (.inl noR_bad), addQ_no (.inr noR_bad), addQ_no (.inr noR_bad)]
theorem dist_bad {P Q : PQ} (h : (ratQ P.1 && ratQ P.2) = false ∨ (ratQ Q.1 && ratQ Q.2) = false) : distP P Q = noR := by
  rcases addQ_or (mulQ (subQ Q.1 P.1) (subQ Q.1 P.1)) (mulQ (subQ Q.2 P.2) (subQ Q.2 P.2)) with e | e
  · obtain ⟨h1, h2, _⟩ := dist_ok (P := P) (Q := Q) e
    rcases h with h | h <;> simp [h1, h2] at h
  · exact e
theorem sameP_iff {A B : PQ} : sameP A B = true ↔ A = B := by
  unfold sameP sameQ sameR
  simp only [Bool.and_eq_true, decide_eq_true_eq, beq_iff_eq]
  constructor
  · rintro ⟨⟨⟨a, b⟩, c⟩, ⟨d, e⟩, f⟩
    exact Prod.ext (Prod.ext (Prod.ext a b) c) (Prod.ext (Prod.ext d e) f)
  · rintro rfl
    exact ⟨⟨⟨rfl, rfl⟩, rfl⟩, ⟨rfl, rfl⟩, rfl⟩
theorem sqR_eq (P A B : PQ) : sqR P A B = sqP P A B := by
  unfold sqR sqP
  have hq0 : ∀ x : Rat, 0 ≤ x * x := qsq
  by_cases hs : signQ (distP A B) = 0
  · rw [if_pos hs]
    rcases addQ_or (mulQ (subQ B.1 A.1) (subQ B.1 A.1)) (mulQ (subQ B.2 A.2) (subQ B.2 A.2)) with hv | hv
    · -- a valid distance of 0: the points are the same
      have hv : ratQ (distP A B) = true := hv
      obtain ⟨⟨a1, a2⟩, ⟨b1, b2⟩, e⟩ := dist_ok hv
      have h0 := (signQ_rv hv).2.1.1 hs
      rw [h0] at e
      have n1 := hq0 (rv B.1 - rv A.1)
      have n2 := hq0 (rv B.2 - rv A.2)
      have z1 : (rv B.1 - rv A.1) * (rv B.1 - rv A.1) = 0 := by grind
      have z2 : (rv B.2 - rv A.2) * (rv B.2 - rv A.2) = 0 := by grind
      have hAB : A = B := Prod.ext (rv_inj a1 b1 (by grind)) (rv_inj a2 b2 (by grind))
      rw [if_pos (sameP_iff.2 hAB)]
      have hd : distP A B = intQ 0 := rv_inj hv intQ_01.1.1 (by rw [h0, intQ_01.1.2])
      have hm : mulQ (intQ 0) (intQ 0) = intQ 0 := by decide +kernel
      rw [hd, hm]
      rcases addQ_or (mulQ (subQ A.1 P.1) (subQ A.1 P.1)) (mulQ (subQ A.2 P.2) (subQ A.2 P.2)) with hw | hw
      · have hw : ratQ (distP P A) = true := hw
        rcases addQ_val intQ_01.1.1 hw with e | e
        · -- the sum is the distance itself, so it fits
          exfalso
          have hi := valid_is hw
          have e2 : addQ (intQ 0) (distP P A) = distP P A := by
            have e3 : addQ (intQ 0) (distP P A) = lowR _ _ := addR_is (valid_is intQ_01.1.1) hi
            rw [e3]
            conv => rhs; rw [hi.1]
            refine lowR_congr (Nat.mul_pos (valid_is intQ_01.1.1).pos hi.pos) hi.pos ?_
            have z0 : zv (intQ 0).1.1 (intQ 0).1.2 = 0 := (rv_zero intQ_01.1.1).1 intQ_01.1.2
            rw [z0]; push_cast; grind
          rw [e2] at e
          rw [e, noR_bad] at hw; cases hw
        · exact rv_inj e.1 hw (by rw [e.2, intQ_01.1.2]; grind)
      · have hw : distP P A = noR := hw
        rw [hw, addQ_no (.inr noR_bad)]
    · -- no distance
      have hv : distP A B = noR := hv
      rw [hv, mulQ_no (.inl noR_bad), addQ_no (.inl noR_bad)]
      by_cases hAB : sameP A B = true
      · rw [if_pos hAB]
        have hAB := sameP_iff.1 hAB
        subst hAB
        refine (dist_bad (.inr ?_)).symm
        cases h1 : ratQ A.1
        · rfl
        · cases h2 : ratQ A.2
          · rfl
          · -- a valid point has a distance from itself
            exfalso
            have e1 : ∀ Z : RQ, ratQ Z = true → subQ Z Z = intQ 0 := by
              intro Z hz
              have hi := valid_is hz
              have e3 : subQ Z Z = lowR _ _ := subR_is hi hi
              have h01 := valid_is intQ_01.1.1
              have z0 : zv (intQ 0).1.1 (intQ 0).1.2 = 0 := (rv_zero intQ_01.1.1).1 intQ_01.1.2
              rw [e3]
              conv => rhs; rw [h01.1]
              refine lowR_congr (Nat.mul_pos hi.pos hi.pos) h01.pos ?_
              rw [z0]; grind
            have hm : mulQ (intQ 0) (intQ 0) = intQ 0 := by decide +kernel
            have ha : addQ (intQ 0) (intQ 0) = intQ 0 := by decide +kernel
            unfold distP at hv
            rw [e1 _ h1, e1 _ h2, hm, ha] at hv
            have := intQ_01.1.1
            rw [hv, noR_bad] at this; cases this
      · rw [if_neg hAB]
        unfold nearP
        rw [hv, divQ_no (.inr noR_bad)]
        unfold partQ
        rw [minQ_no (.inl noR_bad), maxQ_no (.inr noR_bad), way_no, dist_bad (.inr (by show (ratQ noR && ratQ noR) = false; rw [noR_bad]; rfl))]
  · rw [if_neg hs]
    have hv : ratQ (distP A B) = true := by
      cases h : ratQ (distP A B)
      · exact absurd (signQ_no h) hs
      · rfl
    have hne : ¬ sameP A B = true := by
      intro hAB
      have hAB := sameP_iff.1 hAB
      subst hAB
      apply hs
      refine (signQ_rv hv).2.1.2 ?_
      rw [(dist_ok hv).2.2]; grind
    rw [if_neg hne, part_ref _ (divQ_or _ _), innP_swap]
    rfl
/-- the variable at block g, stored anew from lists of one's own; all else is as it was -/
def VarT (w wx : World) (g : Nat) (Z : RQ) (TB TI : TypeId) : Prop :=
  ∃ v0 v1 v2, Box wx g TB #[v0, v1, v2] ∧ QIn wx wx.heap.size v0 v1 v2 Z ∧ Aside g (g + 1) w wx
theorem below_asideT {w u : World} {g : Nat} (h : Below w.heap.size w u) : Aside g (g + 1) w u := ⟨h.os, h.tape, h.output, h.size, fun k hk _ => h.block k hk⟩
theorem vart_set {w u : World} {g lo hi : Nat} {x y z v0 v1 v2 : Value} {Z : RQ} {TB TI : TypeId} (k : Box u g TB #[x, y, z]) (hb : Below w.heap.size w u) (o : ROwn u lo hi TI v0 v1 v2 Z) (f : QFit Z) (hd : g < lo) (hh : hi ≤ u.heap.size) :
    VarT w (((u.setCell ⟨g, 0, none⟩ v0).setCell ⟨g, 1, none⟩ v1).setCell ⟨g, 2, none⟩ v2) g Z TB TI :=
  ⟨v0, v1, v2, ((k.set 0 _).set 1 _).set 2 _, (((o.setv (.inl hd) 0 _).setv (.inl hd) 1 _).setv (.inl hd) 2 _).in_ f (by simp only [setCell_size]; exact hh),
    (((below_asideT hb).setCell (a := ⟨g, 0, none⟩) (Nat.le_refl _) (Nat.lt_succ_self _) _).setCell (a := ⟨g, 1, none⟩) (Nat.le_refl _) (Nat.lt_succ_self _) _).setCell (a := ⟨g, 2, none⟩) (Nat.le_refl _) (Nat.lt_succ_self _) _⟩
end Go.Proofs.YtcpncoonbdbkmaaGreat
