/-
  The texts FreP, FreM, put together; each has its own heading below. No condition of ours.
-/
import Derived.Test.YtocllmaikngoaaaDoorSB
import Derived.Test.YtocllmaikngoaaaDoorSA
import Derived.Test.YtocllmaikngoaaaDoorHP
import Derived.Test.YtocllmaikngoaaaDoorSP
/-
  Free placements: plain: the robot at a heading, the rectangle for its origin, the blocked areas.
-/




namespace Go.Proofs.YtocllmaikngoaaaDoor
open Go.RowKit
set_option linter.unusedVariables false
def hdgB (k : Int) : Bool := decide (0 ≤ k ∧ k ≤ 3)
/-- the robot at a heading -/
noncomputable def robL (S : Scn) (k : Int) : List V2 := if (scnB S && hdgB k) = true then turnL S.r k else []
theorem robL_is {S : Scn} {k : Int} (h : scnB S = true) (hk : hdgB k = true) : robL S k = turnL S.r k := by unfold robL; rw [h, hk]; rfl
theorem robL_no {S : Scn} {k : Int} (h : (scnB S && hdgB k) = false) : robL S k = [] := by unfold robL; rw [h]; rfl
theorem scn_solid {S : Scn} (h : scnB S = true) : solB 20 S.r = true ∧ obsB S.o = true ∧ roomB S.lx S.ly S.hx S.hy = true := by
  unfold scnB at h
  simp only [Bool.and_eq_true] at h
  exact ⟨h.2.1, h.2.2.1, h.1⟩
theorem solid_is {m : Int} {l : List V2} (h : solB m l = true) : l.length ≤ 5 ∧ polyB l = true ∧ allV l = true := by
  unfold solB at h
  simp only [Bool.and_eq_true, decide_eq_true_eq] at h
  have hpp := polyB_iff.1 h.2.1
  exact ⟨h.1, h.2.1, List.all_eq_true.2 fun x hx => by obtain ⟨i, hi, rfl⟩ := List.getElem_of_mem hx; have h9 := poly_vec hpp hi; rwa [atV_eq hi] at h9⟩
theorem robL_len (S : Scn) (k : Int) : (robL S k).length ≤ 5 := by
  by_cases h : (scnB S && hdgB k) = true
  · have h' := h
    simp only [Bool.and_eq_true] at h'
    rw [robL_is h'.1 h'.2]
    exact Nat.le_trans (turnL_len _ _) (solid_is (scn_solid h'.1).1).1
  · rw [robL_no (by simpa using h)]; exact Nat.zero_le _
theorem robL_wf (S : Scn) (k : Int) : wfV (robL S k) := by
  by_cases h : (scnB S && hdgB k) = true
  · have h' := h
    simp only [Bool.and_eq_true] at h'
    rw [robL_is h'.1 h'.2]
    exact turnL_wf _ _
  · rw [robL_no (by simpa using h)]
    intro v hv; simp at hv
theorem robL_ne {S : Scn} {k : Int} (h : scnB S = true) (hk : hdgB k = true) : robL S k ≠ [] := by
  obtain ⟨_, h1, h2⟩ := solid_is (scn_solid h).1
  rw [robL_is h hk, turnL_yes h2]
  have h3 := (polyB_iff.1 h1).1
  intro e
  have := congrArg List.length e
  rw [List.length_map] at this
  simp at this
  rw [this] at h3
  simp at h3
theorem inB_iff (m x y : Int) : inB m x y = true ↔ (-m ≤ x ∧ x ≤ m) ∧ (-m ≤ y ∧ y ≤ m) := by
  unfold inB
  simp
/-- the rectangle for the robot's origin: whether there is one, and its coordinates -/
noncomputable def limB (S : Scn) (k : Int) : Bool := polyB (robL S k) && (decide (S.lx - (loB (robL S k)).1 < S.hx - (hiB (robL S k)).1) && decide (S.ly - (loB (robL S k)).2 < S.hy - (hiB (robL S k)).2))
structure Bx where
  lx : Int
  ly : Int
  hx : Int
  hy : Int
noncomputable def limX (S : Scn) (k : Int) : Bx := if limB S k = true then ⟨S.lx - (loB (robL S k)).1, S.ly - (loB (robL S k)).2, S.hx - (hiB (robL S k)).1, S.hy - (hiB (robL S k)).2⟩ else ⟨0, 0, 0, 0⟩
theorem rob_scn {S : Scn} {k : Int} (h : robL S k ≠ []) : scnB S = true ∧ hdgB k = true := by
  by_cases c : (scnB S && hdgB k) = true
  · simpa using c
  · exact absurd (robL_no (by simpa using c)) h
theorem rob_poly {S : Scn} {k : Int} (h : polyB (robL S k) = true) : scnB S = true ∧ hdgB k = true := by
  refine rob_scn fun e => ?_
  rw [e] at h
  have := (polyB_iff.1 h).1
  simp at this
/-- the differences are small -/
theorem lim_range {S : Scn} {k : Int} (h : polyB (robL S k) = true) : (-200 ≤ S.lx ∧ S.lx ≤ 200) ∧ (-200 ≤ S.ly ∧ S.ly ≤ 200) ∧ (-200 ≤ S.hx ∧ S.hx ≤ 200) ∧ (-200 ≤ S.hy ∧ S.hy ≤ 200) ∧ (-1000 ≤ (loB (robL S k)).1 ∧ (loB (robL S k)).1 ≤ 1000) ∧ (-1000 ≤ (loB (robL S k)).2 ∧ (loB (robL S k)).2 ≤ 1000) ∧ (-1000 ≤ (hiB (robL S k)).1 ∧ (hiB (robL S k)).1 ≤ 1000) ∧ (-1000 ≤ (hiB (robL S k)).2 ∧ (hiB (robL S k)).2 ≤ 1000) := by
  have hr := (scn_solid (rob_poly h).1).2.2
  unfold roomB at hr
  simp only [Bool.and_eq_true] at hr
  have r1 := (inB_iff _ _ _).1 hr.1
  have r2 := (inB_iff _ _ _).1 hr.2.1
  have hpp := polyB_iff.1 h
  have b1 := vecB_bounds (loN_vec hpp (Nat.le_refl _))
  have b2 := vecB_bounds (hiN_vec hpp (Nat.le_refl _))
  rw [loB_is h, hiB_is h]
  refine ⟨r1.1, r1.2, r2.1, r2.2, ?_, ?_, ?_, ?_⟩ <;> omega
end Go.Proofs.YtocllmaikngoaaaDoor

/-
  Rectangles in memory: four cells; the differences of a rectangle.
-/


namespace Go.Proofs.YtocllmaikngoaaaDoor
open Go.RowKit
set_option linter.unusedVariables false
theorem Box.cells4 {w : World} {g : Nat} {E : TypeId} {a b c d : Value} (h : Box w g E #[a, b, c, d]) : w.cell? ⟨g, 0, none⟩ = some a ∧ w.cell? ⟨g, 1, none⟩ = some b ∧ w.cell? ⟨g, 2, none⟩ = some c ∧ w.cell? ⟨g, 3, none⟩ = some d := ⟨h.cell 0, h.cell 1, h.cell 2, h.cell 3⟩
theorem Box.frz4 {w : World} {g : Nat} {E : TypeId} {a b c d : Value} (h : Box w g E #[a, b, c, d]) : w.frozen? ⟨g, 0, none⟩ = false ∧ w.frozen? ⟨g, 1, none⟩ = false ∧ w.frozen? ⟨g, 2, none⟩ = false ∧ w.frozen? ⟨g, 3, none⟩ = false := ⟨h.frozen 0, h.frozen 1, h.frozen 2, h.frozen 3⟩
def set4 (w : World) (g : Nat) (a b c d : Value) : World := (((w.setCell ⟨g, 0, none⟩ a).setCell ⟨g, 1, none⟩ b).setCell ⟨g, 2, none⟩ c).setCell ⟨g, 3, none⟩ d
theorem Box.set4 {w : World} {g : Nat} {E : TypeId} {a b c d a' b' c' d' : Value} (h : Box w g E #[a', b', c', d']) : Box (set4 w g a b c d) g E #[a, b, c, d] := by
  have k0 : Box (w.setCell ⟨g, 0, none⟩ a) g E #[a, b', c', d'] := h.set 0 _
  have k1 : Box ((w.setCell ⟨g, 0, none⟩ a).setCell ⟨g, 1, none⟩ b) g E #[a, b, c', d'] := k0.set 1 _
  have k2 : Box (((w.setCell ⟨g, 0, none⟩ a).setCell ⟨g, 1, none⟩ b).setCell ⟨g, 2, none⟩ c) g E #[a, b, c, d'] := k1.set 2 _
  have k3 : Box ((((w.setCell ⟨g, 0, none⟩ a).setCell ⟨g, 1, none⟩ b).setCell ⟨g, 2, none⟩ c).setCell ⟨g, 3, none⟩ d) g E #[a, b, c, d] := k2.set 3 _
  exact k3
theorem set4_below {w W : World} {B g : Nat} (hb : Below B w W) (hg : B ≤ g) (a b c d : Value) : Below B w (set4 W g a b c d) := (((hb.setCell (p := ⟨g, 0, none⟩) hg a).setCell (p := ⟨g, 1, none⟩) hg b).setCell (p := ⟨g, 2, none⟩) hg c).setCell (p := ⟨g, 3, none⟩) hg d
theorem Tryd.sizeBox : (Tryd.prog.info? 42).map (·.size) = some 4 := by kernel_rfl
theorem set4_belowK {w W : World} {B g : Nat} (hb : Below B w W) (hg : B ≤ g) (a b c d : Value) : Below B w ((((W.setCell ⟨g, 0, none⟩ a).setCell ⟨g, 1, none⟩ b).setCell ⟨g, 2, none⟩ c).setCell ⟨g, 3, none⟩ d) := set4_below hb hg a b c d
/-- the differences are ints -/
theorem lim_i64 {S : Scn} {k : Int} (hw : wf4 S) : (-9223372036854775808 ≤ S.lx - (loB (robL S k)).1 ∧ S.lx - (loB (robL S k)).1 ≤ 9223372036854775807) ∧ (-9223372036854775808 ≤ S.ly - (loB (robL S k)).2 ∧ S.ly - (loB (robL S k)).2 ≤ 9223372036854775807) ∧ (-9223372036854775808 ≤ S.hx - (hiB (robL S k)).1 ∧ S.hx - (hiB (robL S k)).1 ≤ 9223372036854775807) ∧ (-9223372036854775808 ≤ S.hy - (hiB (robL S k)).2 ∧ S.hy - (hiB (robL S k)).2 ≤ 9223372036854775807) := by
  obtain ⟨⟨w1, w2⟩, w3, w4⟩ := hw
  have b1 := bounds_i64 w1
  have b2 := bounds_i64 w2
  have b3 := bounds_i64 w3
  have b4 := bounds_i64 w4
  cases h : polyB (robL S k) with
  | true =>
    have := lim_range h
    omega
  | false =>
    rw [loB_no h, hiB_no h]
    simp only
    omega
/-- a rectangle's variable that a drawn region has made -/
def VarB (w wx : World) (sx : Value) (a b c d : Value) (T : TypeId) : Prop :=
  ∃ g, sx = .pointer (some ⟨g, 0, none⟩) ∧ Box wx g T #[a, b, c, d] ∧ w.heap.size ≤ g ∧ Below w.heap.size w wx
theorem varb_last {w w3 : World} {a b c d : Value} {T : TypeId} (hb : Below w.heap.size w w3) : VarB w (w3.alloc (.cells #[a, b, c, d] T)) (.pointer (some ⟨w3.heap.size, 0, none⟩)) a b c d T :=
  ⟨w3.heap.size, rfl, Box.last _ _ _ rfl, hb.size, below_alloc hb _⟩
theorem varb_set {w w3 : World} {g : Nat} {x y z t a b c d : Value} {T : TypeId} (k : Box w3 g T #[x, y, z, t]) (hb : Below w.heap.size w w3) (hg : w.heap.size ≤ g) :
    VarB w ((((w3.setCell ⟨g, 0, none⟩ a).setCell ⟨g, 1, none⟩ b).setCell ⟨g, 2, none⟩ c).setCell ⟨g, 3, none⟩ d) (.pointer (some ⟨g, 0, none⟩)) a b c d T :=
  ⟨g, rfl, k.set4, hg, set4_below hb hg _ _ _ _⟩
theorem VarB.drew {w wx : World} {sx a b c d : Value} {T : TypeId} (h : VarB w wx sx a b c d T) : VarB w wx.drew sx a b c d T := by
  obtain ⟨g, e, k, h1, h2⟩ := h
  exact ⟨g, e, k.drew, h1, h2.drew⟩
end Go.Proofs.YtocllmaikngoaaaDoor
