/-
  The texts FreP, FreC, put together; each has its own heading below. No condition of ours.
-/
import Derived.Test.YtocllmaikngoaaaGreatDoorSB
import Derived.Test.YtocllmaikngoaaaGreatDoorSA
import Derived.Test.YtocllmaikngoaaaGreatDoorHP
import Derived.Test.YtocllmaikngoaaaGreatDoorSP
import Derived.Test.YtocllmaikngoaaaGreatDoorPN
/-
  Free placements: plain: the robot at a heading, the rectangle for its origin, the blocked areas.
-/




namespace Go.Proofs.YtocllmaikngoaaaGreatDoor
open Go.RowKit
set_option linter.unusedVariables false
def hdgB (k : Int) : Bool := decide (0 ≤ k ∧ k ≤ 3)
/-- the robot at a heading -/
noncomputable def robL (S : Scn) (k : Int) : List V2 := if (scnB S && hdgB k) = true then turnL S.r k else []
theorem robL_is {S : Scn} {k : Int} (h : scnB S = true) (hk : hdgB k = true) : robL S k = turnL S.r k := by unfold robL; rw [h, hk]; rfl
theorem robL_no {S : Scn} {k : Int} (h : (scnB S && hdgB k) = false) : robL S k = [] := by unfold robL; rw [h]; rfl
theorem scn_solid {S : Scn} (h : scnB S = true) : solB 20 S.r = true ∧ obsB S.o = true ∧ roomB S.lx S.ly S.hx S.hy = true := by
  unfold scnB at h
  simp only [Bool.and_eq_true] at h
  exact ⟨h.2.1, h.2.2.1, h.1⟩
theorem solid_is {m : Int} {l : List V2} (h : solB m l = true) : l.length ≤ 5 ∧ polyB l = true ∧ allV l = true := by
  unfold solB at h
  simp only [Bool.and_eq_true, decide_eq_true_eq] at h
  have hpp := polyB_iff.1 h.2.1
  exact ⟨h.1, h.2.1, List.all_eq_true.2 fun x hx => by obtain ⟨i, hi, rfl⟩ := List.getElem_of_mem hx; have h9 := poly_vec hpp hi; rwa [atV_eq hi] at h9⟩
theorem robL_len (S : Scn) (k : Int) : (robL S k).length ≤ 5 := by
  by_cases h : (scnB S && hdgB k) = true
  · have h' := h
    simp only [Bool.and_eq_true] at h'
    rw [robL_is h'.1 h'.2]
    exact Nat.le_trans (turnL_len _ _) (solid_is (scn_solid h'.1).1).1
  · rw [robL_no (by simpa using h)]; exact Nat.zero_le _
theorem robL_wf (S : Scn) (k : Int) : wfV (robL S k) := by
  by_cases h : (scnB S && hdgB k) = true
  · have h' := h
    simp only [Bool.and_eq_true] at h'
    rw [robL_is h'.1 h'.2]
    exact turnL_wf _ _
  · rw [robL_no (by simpa using h)]
    intro v hv; simp at hv
theorem robL_ne {S : Scn} {k : Int} (h : scnB S = true) (hk : hdgB k = true) : robL S k ≠ [] := by
  obtain ⟨_, h1, h2⟩ := solid_is (scn_solid h).1
  rw [robL_is h hk, turnL_yes h2]
  have h3 := (polyB_iff.1 h1).1
  intro e
  have := congrArg List.length e
  rw [List.length_map] at this
  simp at this
  rw [this] at h3
  simp at h3
end Go.Proofs.YtocllmaikngoaaaGreatDoor

/-
  The robot's corners at a point: plain; lists of points that grow.
-/


namespace Go.Proofs.YtocllmaikngoaaaGreatDoor
open Go.RowKit
set_option linter.unusedVariables false
/-- the corners of the robot at a heading, moved by a point -/
noncomputable def corL (S : Scn) (k : Int) (P : PQ) : List PQ := if (((robL S k).map fun v => moveP P v.1 v.2).all validP) = true then (robL S k).map fun v => moveP P v.1 v.2 else []
theorem corL_fit (S : Scn) (k : Int) (P : PQ) : ∀ Q ∈ corL S k P, PFit Q := fun Q h => by
  unfold corL at h
  split at h
  · obtain ⟨v, _, rfl⟩ := List.mem_map.1 h
    exact moveP_fit _ _ _
  · simp at h
theorem corL_len (S : Scn) (k : Int) (P : PQ) : (corL S k P).length ≤ 5 := by
  unfold corL
  split
  · rw [List.length_map]; exact robL_len S k
  · simp
theorem Tryz.infoPoint : (Tryz.prog.info? 49).map (fun i => (i.zero, i.size, i.bytes)) = some (some (.agg #[.bool false, .slice none 0 0, .slice none 0 0, .bool false, .slice none 0 0, .slice none 0 0]), 6, 112) := by kernel_rfl
theorem Tryz.slicePoint : SliceOf Tryz.prog 37 49 6 112 := by
  obtain ⟨i0, hi0, hz0, hz1, hz2⟩ := info_parts Tryz.infoPoint
  exact ⟨Tryz.underlying37, i0, _, hi0, hz0, hz1, hz2, rfl, by omega⟩
theorem Tryz.types_pv : (49 : TypeId) ≠ 39 := by decide
section
variable {w w' : World} {lo hi l u base n : Nat} {TT EP : TypeId} {v : Value} {xs : List Value} {ss : List (Value × List Int)}
theorem Ivs.grown (h : Ivs w lo hi TT ss) (hg : w.grownBy w' v.ownBlock) (ho : w.ownsRow base EP 6 v n xs) (hne : EP ≠ TT) : Ivs w' lo hi TT ss :=
  h.kept fun s hs g hg' => hg.block g ((h.1 s hs).lt hg').2.2 fun e => row_own_ne ho (h.1 s hs) hne e.symm hg' rfl
/-- a point of one's own as an element: its lists -/
theorem POwn.ivs {s : Pr} (h : POwn w l u TT (.bool s.p.1.1.1) s.s1 s.s2 (.bool s.p.2.1.1) s.s4 s.s5 s.p) : Ivs w l u TT s.sl := by
  obtain ⟨l1, h1, l2, h2, ⟨_, a1, b1, a2, b2, o1, o2, p1, p2, p3, p4, p5⟩, ⟨_, a4, b4, a5, b5, o4, o5, q1, q2, q3, q4, q5⟩, r1, r2, r3, r4, r5⟩ := h
  refine ⟨fun x hx => ?_, ?_⟩
  · simp only [Pr.sl, List.mem_cons, List.not_mem_nil, or_false] at hx
    rcases hx with rfl | rfl | rfl | rfl
    · exact o1.wider (by omega) (by omega)
    · exact o2.wider (by omega) (by omega)
    · exact o4.wider (by omega) (by omega)
    · exact o5.wider (by omega) (by omega)
  · have e : (s.sl.filterMap fun x => x.1.ownBlock) = s.s1.ownBlock.toList ++ (s.s2.ownBlock.toList ++ (s.s4.ownBlock.toList ++ s.s5.ownBlock.toList)) := by
      simp only [Pr.sl, List.filterMap_cons, List.filterMap_nil]
      cases s.s1.ownBlock <;> cases s.s2.ownBlock <;> cases s.s4.ownBlock <;> cases s.s5.ownBlock <;> rfl
    rw [e]
    have one : ∀ o : Option Nat, o.toList.Nodup := fun o => by cases o <;> simp
    have ap : ∀ (a b : List Nat), a.Nodup → b.Nodup → (∀ x ∈ a, ∀ y ∈ b, x ≠ y) → (a ++ b).Nodup := fun a b ha hb hd => List.nodup_append.2 ⟨ha, hb, hd⟩
    have k1 : ∀ x ∈ s.s1.ownBlock.toList, a1 ≤ x ∧ x < b1 := fun x hx => by have h9 := o1.lt (Option.mem_toList.1 hx); omega
    have k2 : ∀ x ∈ s.s2.ownBlock.toList, a2 ≤ x ∧ x < b2 := fun x hx => by have h9 := o2.lt (Option.mem_toList.1 hx); omega
    have k4 : ∀ x ∈ s.s4.ownBlock.toList, a4 ≤ x ∧ x < b4 := fun x hx => by have h9 := o4.lt (Option.mem_toList.1 hx); omega
    have k5 : ∀ x ∈ s.s5.ownBlock.toList, a5 ≤ x ∧ x < b5 := fun x hx => by have h9 := o5.lt (Option.mem_toList.1 hx); omega
    refine ap _ _ (one _) (ap _ _ (one _) (ap _ _ (one _) (one _) fun x hx y hy => ?_) fun x hx y hy => ?_) fun x hx y hy => ?_
    · have := k4 x hx; have := k5 y hy; omega
    · have := k2 x hx
      rcases List.mem_append.1 hy with hy | hy
      · have := k4 y hy; omega
      · have := k5 y hy; omega
    · have := k1 x hx
      rcases List.mem_append.1 hy with hy | hy
      · have := k2 y hy; omega
      · rcases List.mem_append.1 hy with hy | hy
        · have := k4 y hy; omega
        · have := k5 y hy; omega
/-- an element more -/
theorem OwnPS.snoc {w5 : World} {ps : List Pr} {s : Pr} {v5 : Value} (hI : Ivs w lo l TT (sls ps)) (hs : Ivs w l u TT s.sl) (row : w.ownsRow lo EP 6 v n xs) (row5 : w5.ownsRow lo EP 6 v5 (n + 1) (prc ps ++ s.cells)) (hg : w.grownBy w5 v.ownBlock) (hne : EP ≠ TT) (h1 : lo ≤ l) (h2 : l ≤ u) (h3 : u ≤ w5.heap.size) : w5.ownsRow lo EP 6 v5 (n + 1) (prc (ps ++ [s])) ∧ Ivs w5 lo w5.heap.size TT (sls (ps ++ [s])) := by
  refine ⟨by rw [prc_append, prc_one]; exact row5, ?_⟩
  rw [sls_append, sls_one]
  exact ((hI.append hs h1 h2).grown hg row hne).wider (Nat.le_refl _) h3
end
end Go.Proofs.YtocllmaikngoaaaGreatDoor
