/-
  Quarter turns of polygons; turns from one heading to another: what the law of turns asks.
-/
import Derived.Test.YtafhhemojdblpaaDoorHedP
import Derived.Test.YtafhhemojdblpaaDoorHulP
import Derived.Test.YtafhhemojdblpaaDoorPD
namespace Go.Proofs.YtafhhemojdblpaaDoor
open Go.RowKit
set_option linter.unusedVariables false
theorem at_mapH (f : V2 → V2) {l : List V2} {i : Nat} (h : i < l.length) : atV (l.map f) i = f (atV l i) := by
  rw [atV_eq (show i < (l.map f).length by rw [List.length_map]; exact h), List.getElem_map, atV_eq h]
theorem tn_rot {k : Nat} (hk : k < 4) (a b c : V2) : tn (rotK k a) (rotK k b) (rotK k c) = tn a b c := by
  obtain ⟨a1, a2⟩ := a
  obtain ⟨b1, b2⟩ := b
  obtain ⟨c1, c2⟩ := c
  rcases (show k = 0 ∨ k = 1 ∨ k = 2 ∨ k = 3 by omega) with rfl | rfl | rfl | rfl <;> simp only [rotK, rot1, tn] <;> grind
theorem rsq_rot {k : Nat} (hk : k < 4) (a : V2) : rsq (rotK k a) = rsq a := by
  obtain ⟨a1, a2⟩ := a
  rcases (show k = 0 ∨ k = 1 ∨ k = 2 ∨ k = 3 by omega) with rfl | rfl | rfl | rfl <;> simp only [rotK, rot1, rsq] <;> grind
theorem poly_rot {k : Nat} (hk : k < 4) {l : List V2} (h : polyP l) : polyP (l.map (rotK k)) := by
  refine ⟨by rw [List.length_map]; exact h.1, by rw [List.length_map]; exact h.2.1, fun i hi j hj n1 n2 => ?_⟩
  rw [List.length_map] at *
  have h3 := h.1
  have hi1 : (i + 1) % l.length < l.length := Nat.mod_lt _ (by omega)
  have := h.2.2 i hi j hj n1 n2
  have hn : ∀ m, m < l.length → vecV (rotK k (atV l m)) = true := fun m hm => by rw [rot_vec hk]; exact poly_vec h hm
  rw [at_mapH _ hi, at_mapH _ hi1, at_mapH _ hj, tV_tn (hn i hi) (hn _ hi1) (hn j hj), tn_rot hk]
  rwa [tV_tn (poly_vec h hi) (poly_vec h hi1) (poly_vec h hj)] at this
theorem fan_rot {k : Nat} (hk : k < 4) (a : V2) : ∀ r : List V2, fan (rotK k a) (r.map (rotK k)) = fan a r := by
  intro r
  induction r with
  | nil => rfl
  | cons b r ih =>
    match r, ih with
    | [], _ => rfl
    | c :: r, ih =>
      simp only [List.map_cons] at ih ⊢
      simp only [fan] at ih ⊢
      rw [ih, tn_rot hk]
theorem area_rot {k : Nat} (hk : k < 4) (l : List V2) : area2 (l.map (rotK k)) = area2 l := by
  match l with
  | [] => rfl
  | a :: r => exact fan_rot hk a r
theorem rchN_rot {k : Nat} (hk : k < 4) (l : List V2) : ∀ i, i ≤ l.length → rchN (l.map (rotK k)) i = rchN l i := by
  intro i
  induction i with
  | zero => intro _; rfl
  | succ i ih =>
    intro hi
    show max (rchN (l.map (rotK k)) i) (rsq (atV (l.map (rotK k)) i)) = max (rchN l i) (rsq (atV l i))
    rw [ih (by omega), at_mapH _ (by omega), rsq_rot hk]
theorem rot_back (k : Int) (v : V2) : rotK (hd (4 - k)) (rotK (hd k) v) = v := by
  obtain ⟨a1, a2⟩ := v
  have h := hd_lt k
  have h1 := hd_int k
  have h2 := hd_int (4 - k)
  have e : hd (4 - k) = if hd k = 0 then 0 else 4 - hd k := by
    split <;> omega
  rw [e]
  rcases (show hd k = 0 ∨ hd k = 1 ∨ hd k = 2 ∨ hd k = 3 by omega) with e | e | e | e <;> rw [e] <;> simp [rotK, rot1]
/-- what the law asks of a polygon and a number of turns -/
theorem one_turn {D : List V2} (hD : polyP D) (k : Int) :
    allV (turnL D k) = true ∧ polyB (turnL D k) = true ∧ turnL (turnL D k) (4 - k) = D ∧ areaB (turnL D k) = areaB D ∧ rchB (turnL D k) = rchB D ∧ (turnL D k).length = D.length := by
  have ha : allV D = true := List.all_eq_true.2 fun x hx => by obtain ⟨i, hi, rfl⟩ := List.getElem_of_mem hx; rw [← atV_eq hi]; exact poly_vec hD hi
  have e : turnL D k = D.map (rotK (hd k)) := turnL_yes ha k
  have hp : polyP (turnL D k) := by rw [e]; exact poly_rot (hd_lt k) hD
  have hB := polyB_iff.2 hp
  have hA := turnL_all D k
  have hl : (turnL D k).length = D.length := by rw [e, List.length_map]
  refine ⟨hA, hB, ?_, ?_, ?_, hl⟩
  · rw [turnL_yes hA, e, List.map_map]
    conv => rhs; rw [← List.map_id D]
    exact List.map_congr_left fun v _ => rot_back k v
  · unfold areaB
    rw [if_pos hB, if_pos (polyB_iff.2 hD), e, area_rot (hd_lt k)]
  · rw [rchB_is hB, rchB_is (polyB_iff.2 hD), hl, e, rchN_rot (hd_lt k) D _ (Nat.le_refl _)]
/-- the turns from one heading to another lead there -/
def stps (g : Int) (l : List Int) : Int := l.foldl nxt g
theorem nxt_range (h t : Int) : -1 ≤ nxt h t ∧ nxt h t ≤ 3 := by
  unfold nxt
  split <;> omega
theorem stps_snoc {g : Int} {l : List Int} {k : Nat} (h : k < l.length) : stps g (l.take (k + 1)) = nxt (stps g (l.take k)) l[k] := by
  unfold stps
  rw [List.take_succ_eq_append_getElem h, List.foldl_append]
  rfl
theorem stps_range {g : Int} (hg : -1 ≤ g ∧ g ≤ 3) : ∀ l : List Int, -1 ≤ stps g l ∧ stps g l ≤ 3 := by
  intro l
  induction l generalizing g with
  | nil => exact hg
  | cons a l ih => exact ih (nxt_range g a)
theorem stps_btw {g h : Int} (hg : 0 ≤ g ∧ g ≤ 3) (hh : 0 ≤ h ∧ h ≤ 3) : stps g (btw g h) = h ∧ (btw g h).length ≤ 2 ∧ ∀ t ∈ btw g h, -1 ≤ t ∧ t ≤ 1 := by
  rcases (show g = 0 ∨ g = 1 ∨ g = 2 ∨ g = 3 by omega) with rfl | rfl | rfl | rfl <;> rcases (show h = 0 ∨ h = 1 ∨ h = 2 ∨ h = 3 by omega) with rfl | rfl | rfl | rfl <;> decide
end Go.Proofs.YtafhhemojdblpaaDoor
