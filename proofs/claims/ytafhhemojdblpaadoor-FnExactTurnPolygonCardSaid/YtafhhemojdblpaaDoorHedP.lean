/-
  Quarter turns, said of vectors and lists: what the functions of headings answer.
-/
import Derived.Test.YtafhhemojdblpaaDoorHM
import Derived.Test.YtafhhemojdblpaaDoorPolI3
import Derived.Test.YtafhhemojdblpaaDoorPX
namespace Go.Proofs.YtafhhemojdblpaaDoor
open Go.RowKit
set_option linter.unusedVariables false
/-- the heading that k quarter turns from heading 0 lead to -/
def hd (k : Int) : Nat := (k % 4).toNat
theorem hd_lt (k : Int) : hd k < 4 := by unfold hd; omega
theorem hd_int (k : Int) : ((hd k : Nat) : Int) = k % 4 := by unfold hd; omega
/-- what the program computes -/
theorem hd_tmod (k : Int) : (k.tmod 4 + 4).tmod 4 = ((hd k : Nat) : Int) := by
  rw [hd_int, Int.tmod_eq_emod_of_nonneg (by have := Int.tmod_lt_of_pos k (show (0 : Int) < 4 by decide); have := Int.lt_tmod_of_pos k (show (0 : Int) < 4 by decide); omega)]
  have : (k.tmod 4 + 4) % 4 = k.tmod 4 % 4 := by omega
  rw [this]
  have h : k.tmod 4 = k - 4 * k.tdiv 4 := by have := Int.mul_tdiv_add_tmod k 4; omega
  omega
theorem hd_emod (k : Int) : (k.tmod 4 + 4) % 4 = ((hd k : Nat) : Int) := by
  have := Int.lt_tmod_of_pos k (show (0 : Int) < 4 by decide)
  exact (Int.tmod_eq_emod_of_nonneg (by omega)).symm.trans (hd_tmod k)
theorem tmod4_range (k : Int) : -4 < k.tmod 4 ∧ k.tmod 4 < 4 :=
  ⟨by have := Int.lt_tmod_of_pos k (show (0 : Int) < 4 by decide); omega, Int.tmod_lt_of_pos k (by decide)⟩
/-- what the reference computes -/
theorem hd_neg {k : Int} (h : k.tmod 4 < 0) : k.tmod 4 + 4 = ((hd k : Nat) : Int) := by
  have := hd_tmod k
  rw [Int.tmod_eq_of_lt (by have := (tmod4_range k).1; omega) (by omega)] at this
  exact this
theorem hd_pos {k : Int} (h : ¬ k.tmod 4 < 0) : k.tmod 4 = ((hd k : Nat) : Int) := by
  have h1 := hd_tmod k
  have h2 := (tmod4_range k).2
  rw [Int.tmod_eq_emod_of_nonneg (by omega)] at h1
  omega
def rot1 (v : V2) : V2 := (-v.2, v.1)
def rotK : Nat → V2 → V2
  | 0, v => v
  | k + 1, v => rotK k (rot1 v)
/-- the rows of the table: what becomes of (1, 0), and of (0, 1) -/
def qx (k : Nat) : V2 := rotK k (1, 0)
def qy (k : Nat) : V2 := rotK k (0, 1)
theorem rot_cases {k : Nat} (h : k < 4) (v : V2) : (k = 0 ∧ rotK k v = v) ∨ (k = 1 ∧ rotK k v = (-v.2, v.1)) ∨ (k = 2 ∧ rotK k v = (-v.1, -v.2)) ∨ (k = 3 ∧ rotK k v = (v.2, -v.1)) := by
  rcases (show k = 0 ∨ k = 1 ∨ k = 2 ∨ k = 3 by omega) with rfl | rfl | rfl | rfl
  · exact .inl ⟨rfl, rfl⟩
  · exact .inr (.inl ⟨rfl, rfl⟩)
  · exact .inr (.inr (.inl ⟨rfl, rfl⟩))
  · exact .inr (.inr (.inr ⟨rfl, by simp [rotK, rot1]⟩))
theorem rot_tab {k : Nat} (h : k < 4) (v : V2) : rotK k v = ((qx k).1 * v.1 + (qy k).1 * v.2, (qx k).2 * v.1 + (qy k).2 * v.2) := by
  rcases (show k = 0 ∨ k = 1 ∨ k = 2 ∨ k = 3 by omega) with rfl | rfl | rfl | rfl <;> simp [rotK, rot1, qx, qy]
theorem rot_vec {k : Nat} (h : k < 4) {v : V2} : vecV (rotK k v) = vecV v := by
  rw [Bool.eq_iff_iff]
  unfold vecV vecB
  rcases rot_cases h v with ⟨_, e⟩ | ⟨_, e⟩ | ⟨_, e⟩ | ⟨_, e⟩ <;> rw [e] <;> simp <;> omega
/-- the turn that the program makes of any vector: -2^63 stays -/
def rotW (k : Nat) (v : V2) : V2 := (IntKind.i64.wrap (rotK k v).1, IntKind.i64.wrap (rotK k v).2)
theorem wrap_keep {x : Int} (h : (Lit.int .i64 x).wf = true) : IntKind.i64.wrap x = x := by
  obtain ⟨a1, a2⟩ := bounds_i64 h
  exact IntWalk.i64_in _ ⟨by omega, by omega⟩
theorem wrap_pos {x : Int} (h : (Lit.int .i64 x).wf = true) : (-1000 ≤ IntKind.i64.wrap x ∧ IntKind.i64.wrap x ≤ 1000) ↔ (-1000 ≤ x ∧ x ≤ 1000) := by rw [wrap_keep h]
theorem wrap_neg {x : Int} (h : (Lit.int .i64 x).wf = true) : (-1000 ≤ IntKind.i64.wrap (-x) ∧ IntKind.i64.wrap (-x) ≤ 1000) ↔ (-1000 ≤ x ∧ x ≤ 1000) := by
  rcases ngw_cases h with e | ⟨e, e'⟩
  · rw [e]; omega
  · rw [e', e]
theorem vecB_iff (x y : Int) : vecB x y = true ↔ (-1000 ≤ x ∧ x ≤ 1000) ∧ (-1000 ≤ y ∧ y ≤ 1000) := by
  unfold vecB; simp
theorem rotW_vec {k : Nat} (hk : k < 4) {v : V2} (h1 : (Lit.int .i64 v.1).wf = true) (h2 : (Lit.int .i64 v.2).wf = true) : vecV (rotW k v) = vecV v ∧ (vecV v = true → rotW k v = rotK k v) := by
  constructor
  · rw [Bool.eq_iff_iff]
    show vecB (IntKind.i64.wrap (rotK k v).1) (IntKind.i64.wrap (rotK k v).2) = true ↔ vecB v.1 v.2 = true
    rw [vecB_iff, vecB_iff]
    rcases rot_cases hk v with ⟨_, e⟩ | ⟨_, e⟩ | ⟨_, e⟩ | ⟨_, e⟩ <;> rw [e]
    · rw [wrap_pos h1, wrap_pos h2]
    · rw [wrap_pos h1, wrap_neg h2]; exact And.comm
    · rw [wrap_neg h1, wrap_neg h2]
    · rw [wrap_neg h1, wrap_pos h2]; exact And.comm
  · intro hv
    have := (vecB_iff v.1 v.2).1 hv
    unfold rotW
    rcases rot_cases hk v with ⟨_, e⟩ | ⟨_, e⟩ | ⟨_, e⟩ | ⟨_, e⟩ <;> rw [e] <;> exact Prod.ext (IntWalk.i64_in _ (by omega)) (IntWalk.i64_in _ (by omega))
theorem rotW_wf2 (k : Nat) (v : V2) : (Lit.int .i64 (rotW k v).1).wf = true ∧ (Lit.int .i64 (rotW k v).2).wf = true := ⟨wrap_wf _ _, wrap_wf _ _⟩
theorem rotW_wf (k : Nat) (l : List V2) : wfV (l.map (rotW k)) := fun v hv => by
  obtain ⟨u, _, rfl⟩ := List.mem_map.1 hv
  exact ⟨wrap_wf _ _, wrap_wf _ _⟩
theorem allV_rotW {k : Nat} (hk : k < 4) : ∀ {l : List V2}, wfV l → allV (l.map (rotW k)) = allV l ∧ (allV l = true → l.map (rotW k) = l.map (rotK k)) := by
  intro l
  induction l with
  | nil => intro _; exact ⟨rfl, fun _ => rfl⟩
  | cons v l ih =>
    intro h
    obtain ⟨i1, i2⟩ := ih fun u hu => h u (List.mem_cons_of_mem _ hu)
    obtain ⟨j1, j2⟩ := rotW_vec hk (h v (by simp)).1 (h v (by simp)).2
    have e1 : allV ((v :: l).map (rotW k)) = (vecV (rotW k v) && allV (l.map (rotW k))) := rfl
    have e2 : allV (v :: l) = (vecV v && allV l) := rfl
    rw [e1, e2, i1, j1]
    refine ⟨rfl, fun hh => ?_⟩
    simp only [Bool.and_eq_true] at hh
    rw [List.map_cons, List.map_cons, i2 hh.2, j2 hh.1]
/-- what TurnVec answers -/
def turnV (v : V2) (k : Int) : V2 := if vecV v = true then rotK (hd k) v else (0, 0)
theorem turnV_yes {v : V2} (h : vecV v = true) (k : Int) : turnV v k = rotK (hd k) v := by unfold turnV; rw [if_pos h]
theorem turnV_no {v : V2} (h : vecV v = false) (k : Int) : turnV v k = (0, 0) := by unfold turnV; rw [if_neg (by simp [h])]
theorem turnV_vec (v : V2) (k : Int) : vecV (turnV v k) = true := by
  unfold turnV
  split
  · rename_i h; rw [rot_vec (hd_lt k)]; exact h
  · decide
/-- what TurnPolygon answers -/
def turnL (l : List V2) (k : Int) : List V2 := if allV l = true then l.map (rotK (hd k)) else []
/-- the same, of a heading -/
def turnQ (l : List V2) (q : Nat) : List V2 := if allV l = true then l.map (rotK q) else []
theorem turnQ_yes {l : List V2} (h : allV l = true) (q : Nat) : turnQ l q = l.map (rotK q) := by unfold turnQ; rw [if_pos h]
theorem turnQ_no {l : List V2} (h : allV l = false) (q : Nat) : turnQ l q = [] := by unfold turnQ; rw [if_neg (by simp [h])]
theorem turnL_yes {l : List V2} (h : allV l = true) (k : Int) : turnL l k = l.map (rotK (hd k)) := by unfold turnL; rw [if_pos h]
theorem turnL_no {l : List V2} (h : allV l = false) (k : Int) : turnL l k = [] := by unfold turnL; rw [if_neg (by simp [h])]
theorem turnL_all (l : List V2) (k : Int) : allV (turnL l k) = true := by
  unfold turnL
  split
  · rename_i h
    refine List.all_eq_true.2 fun v hv => ?_
    obtain ⟨u, hu, rfl⟩ := List.mem_map.1 hv
    rw [rot_vec (hd_lt k)]
    exact List.all_eq_true.1 h u hu
  · rfl
theorem all_wf {l : List V2} (h : allV l = true) : wfV l := fun v hv => by
  have := vecB_bounds (show vecB v.1 v.2 = true from List.all_eq_true.1 h v hv)
  exact ⟨WalkArith.wf_i64 ⟨by omega, by omega⟩, WalkArith.wf_i64 ⟨by omega, by omega⟩⟩
theorem turnL_wf (l : List V2) (k : Int) : wfV (turnL l k) := all_wf (turnL_all l k)
theorem turnL_len (l : List V2) (k : Int) : (turnL l k).length ≤ l.length := by
  unfold turnL
  split
  · rw [List.length_map]; exact Nat.le_refl _
  · exact Nat.zero_le _
/-- the square of a corner's distance from the origin -/
def rsq (v : V2) : Int := v.1 * v.1 + v.2 * v.2
/-- the greatest of the first k -/
def rchN (l : List V2) : Nat → Int
  | 0 => 0
  | k + 1 => max (rchN l k) (rsq (atV l k))
noncomputable def rchB (l : List V2) : Int := if polyB l = true then rchN l l.length else 0
theorem rchB_is {l : List V2} (h : polyB l = true) : rchB l = rchN l l.length := by unfold rchB; rw [if_pos h]
theorem rchB_no {l : List V2} (h : polyB l = false) : rchB l = 0 := by unfold rchB; rw [if_neg (by simp [h])]
theorem rsq_range {v : V2} (h : vecV v = true) : 0 ≤ rsq v ∧ rsq v ≤ 2000000 ∧ 0 ≤ v.1 * v.1 ∧ v.1 * v.1 ≤ 1000000 ∧ 0 ≤ v.2 * v.2 ∧ v.2 * v.2 ≤ 1000000 := by
  have b := vecB_bounds (show vecB v.1 v.2 = true from h)
  have hs : ∀ z : Int, -1000 ≤ z → z ≤ 1000 → 0 ≤ z * z ∧ z * z ≤ 1000000 := fun z h1 h2 => by
    have m1 : 0 ≤ (1000 - z) * (1000 + z) := Int.mul_nonneg (by omega) (by omega)
    have e : (1000 - z) * (1000 + z) = 1000000 - z * z := by grind
    have m2 : 0 ≤ z * z := by
      rcases Int.le_total 0 z with c | c
      · exact Int.mul_nonneg c c
      · have : 0 ≤ (-z) * (-z) := Int.mul_nonneg (by omega) (by omega)
        rwa [Int.neg_mul_neg] at this
    omega
  have h1 := hs v.1 (by omega) (by omega)
  have h2 := hs v.2 (by omega) (by omega)
  unfold rsq
  omega
theorem rchN_range {l : List V2} (h : polyP l) : ∀ k, k ≤ l.length → 0 ≤ rchN l k ∧ rchN l k ≤ 2000000 := by
  intro k
  induction k with
  | zero => intro _; exact ⟨Int.le_refl _, show (0 : Int) ≤ 2000000 by decide⟩
  | succ k ih =>
    intro hk
    have i := ih (by omega)
    have r := rsq_range (poly_vec h (show k < l.length by omega))
    show 0 ≤ max (rchN l k) (rsq (atV l k)) ∧ max (rchN l k) (rsq (atV l k)) ≤ 2000000
    omega
/-- what NextHeading answers -/
def nxt (h t : Int) : Int := if (0 ≤ h ∧ h ≤ 3) ∧ (t = 1 ∨ t = -1) then (h + t) % 4 else -1
theorem nxt_yes {h t : Int} (h1 : 0 ≤ h ∧ h ≤ 3) (h2 : t = 1 ∨ t = -1) : nxt h t = ((hd (h + t) : Nat) : Int) := by unfold nxt; rw [if_pos ⟨h1, h2⟩, hd_int]
theorem nxt_no {h t : Int} (h1 : ¬ ((0 ≤ h ∧ h ≤ 3) ∧ (t = 1 ∨ t = -1))) : nxt h t = -1 := by unfold nxt; rw [if_neg h1]
/-- what TurnsBetween answers -/
def btw (g h : Int) : List Int := if (0 ≤ g ∧ g ≤ 3) ∧ (0 ≤ h ∧ h ≤ 3) then (if (h - g) % 4 = 1 then [1] else if (h - g) % 4 = 3 then [-1] else if (h - g) % 4 = 2 then [1, 1] else []) else []
/-- which rows of the table are equal, as they are and behind a quarter turn to the left or right -/
theorem rows_dec {p q : Nat} (hp : p < 4) (hq : q < 4) :
    decide ((qx q).1 = (qx p).1 ∧ (qx q).2 = (qx p).2 ∧ (qy q).1 = (qy p).1 ∧ (qy q).2 = (qy p).2) = decide (((q : Int) - (p : Int)) % 4 = 0) ∧
    decide ((qx q).1 = (rotW (hd 1) ((qx p).1, (qx p).2)).1 ∧ (qx q).2 = (rotW (hd 1) ((qx p).1, (qx p).2)).2 ∧ (qy q).1 = (rotW (hd 1) ((qy p).1, (qy p).2)).1 ∧ (qy q).2 = (rotW (hd 1) ((qy p).1, (qy p).2)).2) = decide (((q : Int) - (p : Int)) % 4 = 1) ∧
    decide ((qx q).1 = (rotW (hd (-1)) ((qx p).1, (qx p).2)).1 ∧ (qx q).2 = (rotW (hd (-1)) ((qx p).1, (qx p).2)).2 ∧ (qy q).1 = (rotW (hd (-1)) ((qy p).1, (qy p).2)).1 ∧ (qy q).2 = (rotW (hd (-1)) ((qy p).1, (qy p).2)).2) = decide (((q : Int) - (p : Int)) % 4 = 3) := by
  rcases (show p = 0 ∨ p = 1 ∨ p = 2 ∨ p = 3 by omega) with rfl | rfl | rfl | rfl <;> rcases (show q = 0 ∨ q = 1 ∨ q = 2 ∨ q = 3 by omega) with rfl | rfl | rfl | rfl <;> decide
theorem q_wf {k : Nat} (h : k < 4) : (Lit.int .i64 (qx k).1).wf = true ∧ (Lit.int .i64 (qx k).2).wf = true ∧ (Lit.int .i64 (qy k).1).wf = true ∧ (Lit.int .i64 (qy k).2).wf = true := by
  rcases (show k = 0 ∨ k = 1 ∨ k = 2 ∨ k = 3 by omega) with rfl | rfl | rfl | rfl <;> decide
theorem btw_yes {g h d : Int} (k1 : 0 ≤ g ∧ g ≤ 3) (k2 : 0 ≤ h ∧ h ≤ 3) (e : (h - g) % 4 = d) : btw g h = if d = 1 then [1] else if d = 3 then [-1] else if d = 2 then [1, 1] else [] := by unfold btw; rw [if_pos ⟨k1, k2⟩, e]
theorem btw_no {g h : Int} (k : ¬ ((0 ≤ g ∧ g ≤ 3) ∧ (0 ≤ h ∧ h ≤ 3))) : btw g h = [] := by unfold btw; rw [if_neg k]
end Go.Proofs.YtafhhemojdblpaaDoor
