/-
  The texts HedP, HedT, HedI, put together; each has its own heading below. No condition of ours.
-/
import Derived.Test.YtocllmaikngoaaaGreatDoorHM
import Derived.Test.YtocllmaikngoaaaGreatDoorPL
import Derived.Test.YtocllmaikngoaaaGreatDoorTie
import Derived.Stop.LaidErr
import Derived.LaidLaws
import Derived.Lib.LaidTab
import Derived.Lib.LaidU8
import Derived.Test.YtocllmaikngoaaaGreatDoorLB
/-
  Quarter turns, said of vectors and lists: what the functions of headings answer.
-/



namespace Go.Proofs.YtocllmaikngoaaaGreatDoor
open Go.RowKit
set_option linter.unusedVariables false
/-- the heading that k quarter turns from heading 0 lead to -/
def hd (k : Int) : Nat := (k % 4).toNat
theorem hd_lt (k : Int) : hd k < 4 := by unfold hd; omega
theorem hd_int (k : Int) : ((hd k : Nat) : Int) = k % 4 := by unfold hd; omega
/-- what the program computes -/
theorem hd_tmod (k : Int) : (k.tmod 4 + 4).tmod 4 = ((hd k : Nat) : Int) := by
  rw [hd_int, Int.tmod_eq_emod_of_nonneg (by have := Int.tmod_lt_of_pos k (show (0 : Int) < 4 by decide); have := Int.lt_tmod_of_pos k (show (0 : Int) < 4 by decide); omega)]
  have : (k.tmod 4 + 4) % 4 = k.tmod 4 % 4 := by omega
  rw [this]
  have h : k.tmod 4 = k - 4 * k.tdiv 4 := by have := Int.mul_tdiv_add_tmod k 4; omega
  omega
theorem hd_emod (k : Int) : (k.tmod 4 + 4) % 4 = ((hd k : Nat) : Int) := by
  have := Int.lt_tmod_of_pos k (show (0 : Int) < 4 by decide)
  exact (Int.tmod_eq_emod_of_nonneg (by omega)).symm.trans (hd_tmod k)
theorem tmod4_range (k : Int) : -4 < k.tmod 4 ∧ k.tmod 4 < 4 :=
  ⟨by have := Int.lt_tmod_of_pos k (show (0 : Int) < 4 by decide); omega, Int.tmod_lt_of_pos k (by decide)⟩
/-- what the reference computes -/
theorem hd_neg {k : Int} (h : k.tmod 4 < 0) : k.tmod 4 + 4 = ((hd k : Nat) : Int) := by
  have := hd_tmod k
  rw [Int.tmod_eq_of_lt (by have := (tmod4_range k).1; omega) (by omega)] at this
  exact this
theorem hd_pos {k : Int} (h : ¬ k.tmod 4 < 0) : k.tmod 4 = ((hd k : Nat) : Int) := by
  have h1 := hd_tmod k
  have h2 := (tmod4_range k).2
  rw [Int.tmod_eq_emod_of_nonneg (by omega)] at h1
  omega
def rot1 (v : V2) : V2 := (-v.2, v.1)
def rotK : Nat → V2 → V2
  | 0, v => v
  | k + 1, v => rotK k (rot1 v)
/-- the rows of the table: what becomes of (1, 0), and of (0, 1) -/
def qx (k : Nat) : V2 := rotK k (1, 0)
def qy (k : Nat) : V2 := rotK k (0, 1)
theorem rot_cases {k : Nat} (h : k < 4) (v : V2) : (k = 0 ∧ rotK k v = v) ∨ (k = 1 ∧ rotK k v = (-v.2, v.1)) ∨ (k = 2 ∧ rotK k v = (-v.1, -v.2)) ∨ (k = 3 ∧ rotK k v = (v.2, -v.1)) := by
  rcases (show k = 0 ∨ k = 1 ∨ k = 2 ∨ k = 3 by omega) with rfl | rfl | rfl | rfl
  · exact .inl ⟨rfl, rfl⟩
  · exact .inr (.inl ⟨rfl, rfl⟩)
  · exact .inr (.inr (.inl ⟨rfl, rfl⟩))
  · exact .inr (.inr (.inr ⟨rfl, by simp [rotK, rot1]⟩))
theorem rot_tab {k : Nat} (h : k < 4) (v : V2) : rotK k v = ((qx k).1 * v.1 + (qy k).1 * v.2, (qx k).2 * v.1 + (qy k).2 * v.2) := by
  rcases (show k = 0 ∨ k = 1 ∨ k = 2 ∨ k = 3 by omega) with rfl | rfl | rfl | rfl <;> simp [rotK, rot1, qx, qy]
theorem rot_vec {k : Nat} (h : k < 4) {v : V2} : vecV (rotK k v) = vecV v := by
  rw [Bool.eq_iff_iff]
  unfold vecV vecB
  rcases rot_cases h v with ⟨_, e⟩ | ⟨_, e⟩ | ⟨_, e⟩ | ⟨_, e⟩ <;> rw [e] <;> simp <;> omega
/-- the turn that the program makes of any vector: -2^63 stays -/
def rotW (k : Nat) (v : V2) : V2 := (IntKind.i64.wrap (rotK k v).1, IntKind.i64.wrap (rotK k v).2)
theorem wrap_keep {x : Int} (h : (Lit.int .i64 x).wf = true) : IntKind.i64.wrap x = x := by
  obtain ⟨a1, a2⟩ := bounds_i64 h
  exact IntWalk.i64_in _ ⟨by omega, by omega⟩
theorem wrap_pos {x : Int} (h : (Lit.int .i64 x).wf = true) : (-1000 ≤ IntKind.i64.wrap x ∧ IntKind.i64.wrap x ≤ 1000) ↔ (-1000 ≤ x ∧ x ≤ 1000) := by rw [wrap_keep h]
theorem wrap_neg {x : Int} (h : (Lit.int .i64 x).wf = true) : (-1000 ≤ IntKind.i64.wrap (-x) ∧ IntKind.i64.wrap (-x) ≤ 1000) ↔ (-1000 ≤ x ∧ x ≤ 1000) := by
  rcases ngw_cases h with e | ⟨e, e'⟩
  · rw [e]; omega
  · rw [e', e]
theorem vecB_iff (x y : Int) : vecB x y = true ↔ (-1000 ≤ x ∧ x ≤ 1000) ∧ (-1000 ≤ y ∧ y ≤ 1000) := by
  unfold vecB; simp
theorem rotW_vec {k : Nat} (hk : k < 4) {v : V2} (h1 : (Lit.int .i64 v.1).wf = true) (h2 : (Lit.int .i64 v.2).wf = true) : vecV (rotW k v) = vecV v ∧ (vecV v = true → rotW k v = rotK k v) := by
  constructor
  · rw [Bool.eq_iff_iff]
    show vecB (IntKind.i64.wrap (rotK k v).1) (IntKind.i64.wrap (rotK k v).2) = true ↔ vecB v.1 v.2 = true
    rw [vecB_iff, vecB_iff]
    rcases rot_cases hk v with ⟨_, e⟩ | ⟨_, e⟩ | ⟨_, e⟩ | ⟨_, e⟩ <;> rw [e]
    · rw [wrap_pos h1, wrap_pos h2]
    · rw [wrap_pos h1, wrap_neg h2]; exact And.comm
    · rw [wrap_neg h1, wrap_neg h2]
    · rw [wrap_neg h1, wrap_pos h2]; exact And.comm
  · intro hv
    have := (vecB_iff v.1 v.2).1 hv
    unfold rotW
    rcases rot_cases hk v with ⟨_, e⟩ | ⟨_, e⟩ | ⟨_, e⟩ | ⟨_, e⟩ <;> rw [e] <;> exact Prod.ext (IntWalk.i64_in _ (by omega)) (IntWalk.i64_in _ (by omega))
theorem rotW_wf (k : Nat) (l : List V2) : wfV (l.map (rotW k)) := fun v hv => by
  obtain ⟨u, _, rfl⟩ := List.mem_map.1 hv
  exact ⟨wrap_wf _ _, wrap_wf _ _⟩
theorem allV_rotW {k : Nat} (hk : k < 4) : ∀ {l : List V2}, wfV l → allV (l.map (rotW k)) = allV l ∧ (allV l = true → l.map (rotW k) = l.map (rotK k)) := by
  intro l
  induction l with
  | nil => intro _; exact ⟨rfl, fun _ => rfl⟩
  | cons v l ih =>
    intro h
    obtain ⟨i1, i2⟩ := ih fun u hu => h u (List.mem_cons_of_mem _ hu)
    obtain ⟨j1, j2⟩ := rotW_vec hk (h v (by simp)).1 (h v (by simp)).2
    have e1 : allV ((v :: l).map (rotW k)) = (vecV (rotW k v) && allV (l.map (rotW k))) := rfl
    have e2 : allV (v :: l) = (vecV v && allV l) := rfl
    rw [e1, e2, i1, j1]
    refine ⟨rfl, fun hh => ?_⟩
    simp only [Bool.and_eq_true] at hh
    rw [List.map_cons, List.map_cons, i2 hh.2, j2 hh.1]
/-- what TurnVec answers -/
def turnV (v : V2) (k : Int) : V2 := if vecV v = true then rotK (hd k) v else (0, 0)
theorem turnV_yes {v : V2} (h : vecV v = true) (k : Int) : turnV v k = rotK (hd k) v := by unfold turnV; rw [if_pos h]
theorem turnV_no {v : V2} (h : vecV v = false) (k : Int) : turnV v k = (0, 0) := by unfold turnV; rw [if_neg (by simp [h])]
/-- what TurnPolygon answers -/
def turnL (l : List V2) (k : Int) : List V2 := if allV l = true then l.map (rotK (hd k)) else []
/-- the same, of a heading -/
def turnQ (l : List V2) (q : Nat) : List V2 := if allV l = true then l.map (rotK q) else []
theorem turnQ_yes {l : List V2} (h : allV l = true) (q : Nat) : turnQ l q = l.map (rotK q) := by unfold turnQ; rw [if_pos h]
theorem turnQ_no {l : List V2} (h : allV l = false) (q : Nat) : turnQ l q = [] := by unfold turnQ; rw [if_neg (by simp [h])]
theorem turnL_yes {l : List V2} (h : allV l = true) (k : Int) : turnL l k = l.map (rotK (hd k)) := by unfold turnL; rw [if_pos h]
theorem turnL_no {l : List V2} (h : allV l = false) (k : Int) : turnL l k = [] := by unfold turnL; rw [if_neg (by simp [h])]
theorem turnL_all (l : List V2) (k : Int) : allV (turnL l k) = true := by
  unfold turnL
  split
  · rename_i h
    refine List.all_eq_true.2 fun v hv => ?_
    obtain ⟨u, hu, rfl⟩ := List.mem_map.1 hv
    rw [rot_vec (hd_lt k)]
    exact List.all_eq_true.1 h u hu
  · rfl
theorem all_wf {l : List V2} (h : allV l = true) : wfV l := fun v hv => by
  have := vecB_bounds (show vecB v.1 v.2 = true from List.all_eq_true.1 h v hv)
  exact ⟨WalkArith.wf_i64 ⟨by omega, by omega⟩, WalkArith.wf_i64 ⟨by omega, by omega⟩⟩
theorem turnL_wf (l : List V2) (k : Int) : wfV (turnL l k) := all_wf (turnL_all l k)
theorem turnL_len (l : List V2) (k : Int) : (turnL l k).length ≤ l.length := by
  unfold turnL
  split
  · rw [List.length_map]; exact Nat.le_refl _
  · exact Nat.zero_le _
end Go.Proofs.YtocllmaikngoaaaGreatDoor

/-
  The table of quarter turns: what the row's list gives the walks.
-/






namespace Go.Proofs.YtocllmaikngoaaaGreatDoor
open Go.RowKit
set_option linter.unusedVariables false
theorem Tryz.gQT : Tryz.prog.globalNamed "loop.example/g00811/impl.quarterTurns" = some 0 := by kernel_rfl
theorem Tryz.tQT : (Tryz.prog.globals[0]?).map (·.type) = some 133 := by kernel_rfl
def laidQ : List (String × DataW Unit) := [("loop.example/g00811/impl.quarterTurns", Rows.laid_loop_example_g00811_impl_quarterTurns)]
/-- the table's rows: four matrices of two vectors -/
def QTab (w : World) : Prop := 0 < w.heap.size ∧ ∀ i, i < 4 →
  w.cell? ⟨0, i * 4, none⟩ = some (.int .i64 (qx i).1) ∧ w.cell? ⟨0, i * 4 + 1, none⟩ = some (.int .i64 (qx i).2) ∧
  w.cell? ⟨0, i * 4 + 2, none⟩ = some (.int .i64 (qy i).1) ∧ w.cell? ⟨0, i * 4 + 3, none⟩ = some (.int .i64 (qy i).2)
theorem QTab.below {B : Nat} {w w' : World} (h : QTab w) (hb : Below B w w') (hB : w.heap.size ≤ B) : QTab w' := by
  obtain ⟨h0, h1⟩ := h
  refine ⟨Nat.lt_of_lt_of_le h0 hb.size, fun i hi => ?_⟩
  obtain ⟨a, b, c, d⟩ := h1 i hi
  exact ⟨(hb.cell (Nat.lt_of_lt_of_le h0 hB)).trans a, (hb.cell (Nat.lt_of_lt_of_le h0 hB)).trans b, (hb.cell (Nat.lt_of_lt_of_le h0 hB)).trans c, (hb.cell (Nat.lt_of_lt_of_le h0 hB)).trans d⟩
set_option maxRecDepth 100000 in
theorem vec_cells {H : Type} {enc : TypeId × Value → H} {w : World} {base : Nat} {sp : Nat → Bool} {held : Bool} {fuel : Nat} {cs : List Value} {p : List MemPlace} {a b : Int}
    (h : DataW.trod enc Tryz.prog w base sp held fuel 39 cs = some (.agg [.lit (.int .i64 a), .lit (.int .i64 b)], p)) : cs = [.int .i64 a, .int .i64 b] := by
  refine Lib.ints_of_struct (k := .i64) (zs := [a, b]) Tryz.underlying39 ?_ (by kernel_rfl) h
  intro i f hf
  rcases (show i = 0 ∨ i = 1 ∨ 2 ≤ i by omega) with rfl | rfl | hi
  · simp at hf; subst hf; exact ⟨Tryz.underlying3, rfl, by kernel_rfl⟩
  · simp at hf; subst hf; exact ⟨Tryz.underlying3, rfl, by kernel_rfl⟩
  · rw [Array.getElem?_eq_none (by simpa using hi)] at hf; cases hf
set_option maxRecDepth 100000 in
theorem mat_cells {H : Type} {enc : TypeId × Value → H} {w : World} {base : Nat} {sp : Nat → Bool} {held : Bool} {fuel : Nat} {cs : List Value} {p : List MemPlace} {a b c d : Int}
    (h : DataW.trod enc Tryz.prog w base sp held fuel 132 cs = some (.agg [.agg [.lit (.int .i64 a), .lit (.int .i64 b)], .agg [.lit (.int .i64 c), .lit (.int .i64 d)]], p)) :
    cs[0]? = some (.int .i64 a) ∧ cs[1]? = some (.int .i64 b) ∧ cs[2]? = some (.int .i64 c) ∧ cs[3]? = some (.int .i64 d) := by
  obtain ⟨f0, d0, q0, e0, h0⟩ := Lib.array_elem Tryz.underlying132 h 0 (by omega)
  obtain ⟨f1, d1, q1, e1, h1⟩ := Lib.array_elem Tryz.underlying132 h 1 (by omega)
  rw [show Tryz.prog.cellsOf 39 = 2 by kernel_rfl] at h0 h1
  simp only [List.getElem?_cons_zero, List.getElem?_cons_succ, Option.some.injEq] at e0 e1
  subst e0 e1
  have k0 := vec_cells h0
  have k1 := vec_cells h1
  have g : ∀ (r s i : Nat) (v : Value) (l : List Value), (cs.drop r).take s = l → i < s → l[i]? = some v → cs[r + i]? = some v := fun r s i v l e hi hv => by
    rw [← e, List.getElem?_take, if_pos hi, List.getElem?_drop] at hv
    exact hv
  exact ⟨g 0 2 0 _ _ k0 (by omega) rfl, g 0 2 1 _ _ k0 (by omega) rfl, g 2 2 0 _ _ k1 (by omega) rfl, g 2 2 1 _ _ k1 (by omega) rfl⟩
set_option maxRecDepth 100000 in
theorem q_of_laid {W : World} (h : laidMet Tryz.prog laidQ W) : QTab W := by
  obtain ⟨g, t, cs, fuel, p, hg, hty, hvar, hd⟩ := Lib.laidMet.reads h (.head _)
  obtain rfl := Option.some.inj (Tryz.gQT.symm.trans hg)
  obtain rfl := Option.some.inj (Tryz.tQT.symm.trans hty)
  have hc := fun i => World.var?_cell Tryz.gQT hvar i
  have hlt : 0 < W.heap.size := by
    unfold World.var? at hvar
    rw [Tryz.gQT] at hvar
    simp only [Option.bind_some] at hvar
    cases hh : W.heap[0]? with
    | none => rw [hh] at hvar; cases hvar
    | some o => exact (Array.getElem?_eq_some_iff.1 hh).1
  refine ⟨hlt, fun i hi => ?_⟩
  obtain ⟨f0, d0, q0, e0, h0⟩ := Lib.array_elem Tryz.underlying133 hd i hi
  rw [show Tryz.prog.cellsOf 132 = 4 by kernel_rfl] at h0
  have g : ∀ (j : Nat) (v : Value), j < 4 → ((cs.toList.drop (i * 4)).take 4)[j]? = some v → W.cell? ⟨0, i * 4 + j, none⟩ = some v := fun j v hj hv => by
    rw [hc, ← Array.getElem?_toList]
    rw [List.getElem?_take, if_pos hj, List.getElem?_drop] at hv
    exact hv
  have key : ∀ a b c d : Int, d0 = .agg [.agg [.lit (.int .i64 a), .lit (.int .i64 b)], .agg [.lit (.int .i64 c), .lit (.int .i64 d)]] → (qx i).1 = a → (qx i).2 = b → (qy i).1 = c → (qy i).2 = d → _ := fun a b c d e ha hb hc hd => by
    subst e
    obtain ⟨m0, m1, m2, m3⟩ := mat_cells h0
    rw [← ha] at m0; rw [← hb] at m1; rw [← hc] at m2; rw [← hd] at m3
    exact (⟨g 0 _ (by omega) m0, g 1 _ (by omega) m1, g 2 _ (by omega) m2, g 3 _ (by omega) m3⟩ : W.cell? ⟨0, i * 4 + 0, none⟩ = some (.int .i64 (qx i).1) ∧ W.cell? ⟨0, i * 4 + 1, none⟩ = some (.int .i64 (qx i).2) ∧ W.cell? ⟨0, i * 4 + 2, none⟩ = some (.int .i64 (qy i).1) ∧ W.cell? ⟨0, i * 4 + 3, none⟩ = some (.int .i64 (qy i).2))
  rcases (show i = 0 ∨ i = 1 ∨ i = 2 ∨ i = 3 by omega) with rfl | rfl | rfl | rfl
  · exact key 1 0 0 1 (Option.some.inj e0).symm (by decide) (by decide) (by decide) (by decide)
  · exact key 0 1 (-1) 0 (Option.some.inj e0).symm (by decide) (by decide) (by decide) (by decide)
  · exact key (-1) 0 0 (-1) (Option.some.inj e0).symm (by decide) (by decide) (by decide) (by decide)
  · exact key 0 (-1) 1 0 (Option.some.inj e0).symm (by decide) (by decide) (by decide) (by decide)
end Go.Proofs.YtocllmaikngoaaaGreatDoor

/-
  The program's headings: contracts: headingAfter, isHeading, NextHeading.
-/


namespace Go.Proofs.YtocllmaikngoaaaGreatDoor
open Go.RowKit
set_option linter.unusedVariables false
theorem impl_headingAfter (w : World) (k : Int) :
    Calls Tryz.prog 100 #[.int .i64 k] w fun e w' => e = .returned (.int .i64 ((hd k : Nat) : Int)) ∧ w = w' := by
  have h1 := tmod4_range k
  have HT := hide (hd_emod k)
  have h2 := hd_lt k
  go_enter Tryz.func100, Tryz.ntmps100
  go_wp2_with fail
  go_ret
  exact ⟨ret_int HT.out, rfl⟩
theorem impl_isHeading (w : World) (k : Int) :
    Calls Tryz.prog 60 #[.int .i64 k] w fun e w' => e = .returned (.bool (decide (0 ≤ k ∧ k ≤ 3))) ∧ w = w' := by
  have HC := hide (impl_headingAfter w k)
  have HN : Hid (decide (k = ((hd k : Nat) : Int)) = decide (0 ≤ k ∧ k ≤ 3)) := by
    show _ = _
    have := hd_int k
    exact decide_eq_decide.2 (by omega)
  generalize ((hd k : Nat) : Int) = n at *
  go_enter Tryz.func60, Tryz.ntmps60
  go_wp2_with fail
  refine HC.out.mono ?_
  rintro e w1 ⟨rfl, rfl⟩
  go_wp2_with fail
  go_ret
  exact ⟨by rw [← HN.out]; rfl, rfl⟩
end Go.Proofs.YtocllmaikngoaaaGreatDoor
