/-
  The texts SumP, MinM, PolG, PlgM, put together; each has its own heading below. No condition of ours.
-/
import Derived.Test.YtdagomikjblgiaaGreatDoorPDX
import Derived.Test.YtdagomikjblgiaaGreatDoorPC
/-
  Sums of two polygons: how many corners, what lies inside, what separates two polygons.
-/

namespace Go.Proofs.YtdagomikjblgiaaGreatDoor
open Go.RowKit
set_option linter.unusedVariables false
def addV (u v : V2) : V2 := (u.1 + v.1, u.2 + v.2)
def sumV (a b : List V2) : List V2 := a.flatMap fun v => b.map fun w => addV v w
theorem at_mem {l : List V2} {i : Nat} (h : i < l.length) : atV l i ∈ l := by rw [atV_eq h]; exact List.getElem_mem h
theorem mem_at {l : List V2} {x : V2} (h : x ∈ l) : ∃ i, i < l.length ∧ atV l i = x := by
  obtain ⟨i, hi, e⟩ := List.getElem_of_mem h
  exact ⟨i, hi, by rw [atV_eq hi, e]⟩
section
variable {a b : List V2} (hl : (sumV a b).length ≤ 64) (hv : allV (sumV a b) = true) (h2 : 2 ≤ (srtV (sumV a b)).length) (h3 : 3 ≤ (hullV (sumV a b)).length)
include hl hv h2 h3
end
theorem tn_addr (a b c z : V2) : tn (addV a z) (addV b z) (addV c z) = tn a b c := by unfold tn addV; grind
theorem at_map (f : V2 → V2) {l : List V2} {i : Nat} (h : i < l.length) : atV (l.map f) i = f (atV l i) := by
  rw [atV_eq h, atV_eq (by rw [List.length_map]; exact h), List.getElem_map]
theorem poly_ng {a : List V2} (h : polyP a) : polyP (a.map ng) := by
  refine ⟨by rw [List.length_map]; exact h.1, by rw [List.length_map]; exact h.2.1, fun i hi j hj n1 n2 => ?_⟩
  rw [List.length_map] at *
  have hi1 : (i + 1) % a.length < a.length := Nat.mod_lt _ (by omega)
  have := h.2.2 i hi j hj n1 n2
  rw [at_map ng hi, at_map ng hi1, at_map ng hj]
  have hn : ∀ k, k < a.length → vecV (ng (atV a k)) = true := fun k hk => by
    have := poly_vec h hk
    unfold vecV at *
    have hb := vecB_bounds this
    unfold vecB ng
    simp; omega
  rw [tV_tn (poly_vec h hi) (poly_vec h hi1) (poly_vec h hj)] at this
  rw [tV_tn (hn i hi) (hn _ hi1) (hn j hj), tn_ng]
  exact this
theorem poly_left {D : List V2} (h : polyP D) {i : Nat} (hi : i < D.length) : ∀ x ∈ D, 0 ≤ tn (atV D i) (atV D ((i + 1) % D.length)) x := by
  intro x hx
  obtain ⟨j, hj, e⟩ := mem_at hx
  subst e
  have hi1 : (i + 1) % D.length < D.length := Nat.mod_lt _ (by omega)
  by_cases k1 : j = i
  · rw [k1, tn_l]; omega
  by_cases k2 : j = (i + 1) % D.length
  · rw [k2, tn_r]; omega
  have := h.2.2 i hi j hj k1 k2
  rw [tV_tn (poly_vec h hi) (poly_vec h hi1) (poly_vec h hj)] at this
  omega
end Go.Proofs.YtdagomikjblgiaaGreatDoor

/-
  Sums, separating edges, widths and moves of polygons: what the functions answer, said of lists.
-/

namespace Go.Proofs.YtdagomikjblgiaaGreatDoor
open Go.RowKit
set_option linter.unusedVariables false
/-- least and greatest coordinates of the corners up to k -/
def loN (l : List V2) : Nat → V2
  | 0 => atV l 0
  | k + 1 => (min (loN l k).1 (atV l k).1, min (loN l k).2 (atV l k).2)
def hiN (l : List V2) : Nat → V2
  | 0 => atV l 0
  | k + 1 => (max (hiN l k).1 (atV l k).1, max (hiN l k).2 (atV l k).2)
theorem loN_mem (l : List V2) (h0 : 0 < l.length) : ∀ k, k ≤ l.length → (∃ i, i < l.length ∧ (loN l k).1 = (atV l i).1) ∧ (∃ i, i < l.length ∧ (loN l k).2 = (atV l i).2) := by
  intro k
  induction k with
  | zero => intro _; exact ⟨⟨0, h0, rfl⟩, ⟨0, h0, rfl⟩⟩
  | succ k ih =>
    intro hk
    obtain ⟨i1, i2⟩ := ih (by omega)
    constructor
    · show ∃ i, i < l.length ∧ min (loN l k).1 (atV l k).1 = (atV l i).1
      by_cases c : (loN l k).1 ≤ (atV l k).1
      · rw [Int.min_eq_left c]; exact i1
      · rw [Int.min_eq_right (by omega)]; exact ⟨k, by omega, rfl⟩
    · show ∃ i, i < l.length ∧ min (loN l k).2 (atV l k).2 = (atV l i).2
      by_cases c : (loN l k).2 ≤ (atV l k).2
      · rw [Int.min_eq_left c]; exact i2
      · rw [Int.min_eq_right (by omega)]; exact ⟨k, by omega, rfl⟩
theorem hiN_mem (l : List V2) (h0 : 0 < l.length) : ∀ k, k ≤ l.length → (∃ i, i < l.length ∧ (hiN l k).1 = (atV l i).1) ∧ (∃ i, i < l.length ∧ (hiN l k).2 = (atV l i).2) := by
  intro k
  induction k with
  | zero => intro _; exact ⟨⟨0, h0, rfl⟩, ⟨0, h0, rfl⟩⟩
  | succ k ih =>
    intro hk
    obtain ⟨i1, i2⟩ := ih (by omega)
    constructor
    · show ∃ i, i < l.length ∧ max (hiN l k).1 (atV l k).1 = (atV l i).1
      by_cases c : (hiN l k).1 ≤ (atV l k).1
      · rw [Int.max_eq_right c]; exact ⟨k, by omega, rfl⟩
      · rw [Int.max_eq_left (by omega)]; exact i1
    · show ∃ i, i < l.length ∧ max (hiN l k).2 (atV l k).2 = (atV l i).2
      by_cases c : (hiN l k).2 ≤ (atV l k).2
      · rw [Int.max_eq_right c]; exact ⟨k, by omega, rfl⟩
      · rw [Int.max_eq_left (by omega)]; exact i2
theorem loN_le (l : List V2) : ∀ k i, i < k → (loN l k).1 ≤ (atV l i).1 ∧ (loN l k).2 ≤ (atV l i).2 := by
  intro k
  induction k with
  | zero => intro i h; omega
  | succ k ih =>
    intro i h
    show min (loN l k).1 (atV l k).1 ≤ _ ∧ min (loN l k).2 (atV l k).2 ≤ _
    have m1 := Int.min_le_left (loN l k).1 (atV l k).1
    have m2 := Int.min_le_right (loN l k).1 (atV l k).1
    have m3 := Int.min_le_left (loN l k).2 (atV l k).2
    have m4 := Int.min_le_right (loN l k).2 (atV l k).2
    by_cases e : i = k
    · subst e; exact ⟨m2, m4⟩
    · have := ih i (by omega)
      omega
theorem hiN_le (l : List V2) : ∀ k i, i < k → (atV l i).1 ≤ (hiN l k).1 ∧ (atV l i).2 ≤ (hiN l k).2 := by
  intro k
  induction k with
  | zero => intro i h; omega
  | succ k ih =>
    intro i h
    show _ ≤ max (hiN l k).1 (atV l k).1 ∧ _ ≤ max (hiN l k).2 (atV l k).2
    have m1 := Int.le_max_left (hiN l k).1 (atV l k).1
    have m2 := Int.le_max_right (hiN l k).1 (atV l k).1
    have m3 := Int.le_max_left (hiN l k).2 (atV l k).2
    have m4 := Int.le_max_right (hiN l k).2 (atV l k).2
    by_cases e : i = k
    · subst e; exact ⟨m2, m4⟩
    · have := ih i (by omega)
      omega
theorem loN_vec {l : List V2} (h : polyP l) {k : Nat} (hk : k ≤ l.length) : vecV (loN l k) = true := by
  obtain ⟨⟨i, hi, e⟩, ⟨j, hj, e'⟩⟩ := loN_mem l (by have := h.1; omega) k hk
  have h1 := vecB_bounds (poly_vec h hi)
  have h2 := vecB_bounds (poly_vec h hj)
  unfold vecV vecB
  simp; omega
theorem hiN_vec {l : List V2} (h : polyP l) {k : Nat} (hk : k ≤ l.length) : vecV (hiN l k) = true := by
  obtain ⟨⟨i, hi, e⟩, ⟨j, hj, e'⟩⟩ := hiN_mem l (by have := h.1; omega) k hk
  have h1 := vecB_bounds (poly_vec h hi)
  have h2 := vecB_bounds (poly_vec h hj)
  unfold vecV vecB
  simp; omega
noncomputable def loB (l : List V2) : V2 := if polyB l = true then loN l l.length else (0, 0)
noncomputable def hiB (l : List V2) : V2 := if polyB l = true then hiN l l.length else (0, 0)
theorem loB_no {l : List V2} (h : polyB l = false) : loB l = (0, 0) := by unfold loB; rw [if_neg (by simp [h])]
theorem hiB_no {l : List V2} (h : polyB l = false) : hiB l = (0, 0) := by unfold hiB; rw [if_neg (by simp [h])]
theorem loB_is {l : List V2} (h : polyB l = true) : loB l = loN l l.length := by unfold loB; rw [if_pos h]
theorem hiB_is {l : List V2} (h : polyB l = true) : hiB l = hiN l l.length := by unfold hiB; rw [if_pos h]
/-- each corner moved by v, where all of them stay in range -/
def mvL (l : List V2) (v : V2) : List V2 := if vecV v = true ∧ allV (l.map fun p => addV p v) = true then l.map fun p => addV p v else []
theorem mvL_wf {l : List V2} (v : V2) : wfV (mvL l v) := by
  unfold mvL
  split
  · rename_i h
    intro x hx
    have := vecB_bounds (List.all_eq_true.1 h.2 x hx)
    exact ⟨WalkArith.wf_i64 ⟨by omega, by omega⟩, WalkArith.wf_i64 ⟨by omega, by omega⟩⟩
  · intro x hx; simp at hx
theorem mvL_len {l : List V2} (v : V2) : (mvL l v).length ≤ l.length := by
  unfold mvL
  split
  · simp
  · simp
noncomputable def orgL (l : List V2) : List V2 := if polyB l = true then mvL l (ng (loN l l.length)) else []
theorem orgL_no {l : List V2} (h : polyB l = false) : orgL l = [] := by unfold orgL; rw [if_neg (by simp [h])]
theorem orgL_is {l : List V2} (h : polyB l = true) : orgL l = mvL l (ng (loN l l.length)) := by unfold orgL; rw [if_pos h]
end Go.Proofs.YtdagomikjblgiaaGreatDoor

/-
  Where a whole point lies: ContainsPoint at PointOf.
-/


namespace Go.Proofs.YtdagomikjblgiaaGreatDoor
open Go.RowKit
set_option linter.unusedVariables false
theorem cap_one : capZ 1 = (false, [1]) := by
  rw [capZ_inC (inR_small (by decide))]
  have : limbs 1 = [1] := by simp [limbs]
  show (decide ((1 : Int) < 0), limbs 1) = _
  rw [this]; rfl
theorem inR_vec {x : Int} (h : -1000 ≤ x) (h' : x ≤ 1000) : inRc x := inR_small (by omega)
theorem mulZ_one {x : Int} (h : -1000 ≤ x) (h' : x ≤ 1000) : mulZ (capZ x).1 (capZ x).2 false [1] = capZ x := by
  have := mulZ_capC (inR_vec h h') (inR_small (z := 1) (by decide))
  rw [cap_one, Int.mul_one] at this
  exact this
theorem mulL_one : mulL [1] [1] = [1] := by
  have := mulZ_capC (inR_small (z := 1) (by decide)) (inR_small (z := 1) (by decide))
  have h1 : natB [1] = true := by decide
  have h2 : natV [1] = 1 := by decide
  rw [mulL, h1, h2, capL_small (Nat.one_lt_pow (by decide) (by decide))]
  simp [limbs]
theorem ratQ_int {x : Int} (h : -1000 ≤ x) (h' : x ≤ 1000) : ratQ (intQ x) = true := by
  have hr := inR_vec h h'
  have hb := bigB_capC hr
  have e := capZ_inC hr
  have hN : natB (capZ x).2 = true := by rw [e]; exact natB_limbs hr
  have hV : natV (capZ x).2 = x.natAbs := by rw [e]; exact natV_limbs _
  have hl : (capZ x).2.length ≤ 24 := by rw [e]; exact limbs_len.2 (Nat.lt_of_le_of_lt (show x.natAbs ≤ 1000 by omega) (by decide))
  have h1 : natB [1] = true := by decide
  have h2 : natV [1] = 1 := by decide
  unfold ratQ intQ ratB
  rw [hb]
  have hg : gcdL (capZ x).2 [1] = [1] := by rw [gcdL, hN, h1, hV, h2, Nat.gcd_one_right]; simp [limbs]
  simp only [hg]
  unfold shortB
  simp [hl]
/-- the side of an edge on which a whole point lies -/
def sgE (l : List V2) (v : V2) (i : Nat) : Int := if tn (atV l i) (atV l ((i + 1) % l.length)) v < 0 then -1 else if 0 < tn (atV l i) (atV l ((i + 1) % l.length)) v then 1 else 0
def inN (l : List V2) (v : V2) : Nat → Int
  | 0 => 1
  | k + 1 => min (inN l v k) (sgE l v k)
noncomputable def contB (l : List V2) (v : V2) : Int := if polyB l = true then inN l v l.length else -1
theorem sgE_range (l : List V2) (v : V2) (i : Nat) : -1 ≤ sgE l v i ∧ sgE l v i ≤ 1 := by
  unfold sgE; split
  · omega
  · split <;> omega
theorem inN_range (l : List V2) (v : V2) : ∀ k, -1 ≤ inN l v k ∧ inN l v k ≤ 1 := by
  intro k
  induction k with
  | zero => simp [inN]
  | succ k ih =>
    have := sgE_range l v k
    show -1 ≤ min _ _ ∧ min _ _ ≤ 1
    omega
theorem inN_le (l : List V2) (v : V2) : ∀ k i, i < k → inN l v k ≤ sgE l v i := by
  intro k
  induction k with
  | zero => intro i h; omega
  | succ k ih =>
    intro i h
    show min _ _ ≤ _
    by_cases e : i = k
    · subst e; omega
    · have := ih i (by omega); omega
theorem inN_nn (l : List V2) (v : V2) : ∀ k, (∀ i, i < k → 0 ≤ tn (atV l i) (atV l ((i + 1) % l.length)) v) → 0 ≤ inN l v k := by
  intro k
  induction k with
  | zero => intro _; simp [inN]
  | succ k ih =>
    intro h
    have h1 := ih fun i hi => h i (by omega)
    have h2 : 0 ≤ sgE l v k := by
      have := h k (by omega)
      unfold sgE
      rw [if_neg (by omega)]
      split <;> omega
    show 0 ≤ min _ _
    omega
theorem inN_neg {l : List V2} {v : V2} {k n : Nat} (h : tn (atV l k) (atV l ((k + 1) % l.length)) v < 0) (hk : k < n) : inN l v n = -1 := by
  have h1 := inN_le l v n k hk
  have h2 := (inN_range l v n).1
  have h3 : sgE l v k = -1 := by unfold sgE; rw [if_pos h]
  omega
theorem contB_nn {l : List V2} (hp : polyP l) (v : V2) : 0 ≤ contB l v ↔ ∀ i, i < l.length → 0 ≤ tn (atV l i) (atV l ((i + 1) % l.length)) v := by
  unfold contB
  rw [if_pos (polyB_iff.2 hp)]
  constructor
  · intro h i hi
    rcases Int.lt_or_le (tn (atV l i) (atV l ((i + 1) % l.length)) v) 0 with k | k
    · rw [inN_neg k hi] at h; omega
    · exact k
  · exact inN_nn l v l.length
theorem contB_first {l : List V2} (hp : polyP l) : contB l (atV l 0) = 0 := by
  have h0 : 0 < l.length := by have := hp.1; omega
  have h1 := (contB_nn hp (atV l 0)).2 fun i hi => poly_left hp hi _ (at_mem h0)
  have h2 : contB l (atV l 0) ≤ sgE l (atV l 0) 0 := by
    unfold contB
    rw [if_pos (polyB_iff.2 hp)]
    exact inN_le l _ _ 0 h0
  have h3 : sgE l (atV l 0) 0 = 0 := by unfold sgE; rw [tn_l]; simp
  omega
theorem cmp_sgE {l : List V2} {k p : Nat} (hk : k < l.length) (hp : p < l.length) (e : (k + 1) % l.length = p) (x y : Int) :
    cmpV ((l[p].1 - l[k].1) * (y - l[k].2 * 1)) ((l[p].2 - l[k].2) * (x - l[k].1 * 1)) = sgE l (x, y) k := by
  subst e
  have ht : tn (atV l k) (atV l ((k + 1) % l.length)) (x, y) = (l[(k + 1) % l.length].1 - l[k].1) * (y - l[k].2 * 1) - (l[(k + 1) % l.length].2 - l[k].2) * (x - l[k].1 * 1) := by
    rw [atV_eq hk, atV_eq hp]; unfold tn; rw [Int.mul_one, Int.mul_one]
  unfold sgE cmpV
  rw [ht]
  generalize (l[(k + 1) % l.length].1 - l[k].1) * (y - l[k].2 * 1) = a
  generalize (l[(k + 1) % l.length].2 - l[k].2) * (x - l[k].1 * 1) = b
  repeat' split
  all_goals omega
/-- at a whole point in range -/
def atPt (w : World) (B : Nat) (p0 p1 p2 p3 p4 p5 : Value) (x y : Int) : Prop := PIn w B p0 p1 p2 p3 p4 p5 (vecP x y) ∧ vecB x y = true
set_option maxRecDepth 100000 in
set_option maxHeartbeats 3200000 in
theorem impl_ContainsAt (w : World) (B : Nat) (hB : B ≤ w.heap.size) (A : Option Addr) (n c : Nat) (l : List V2) (R : RdV w B A n l) {p0 p1 p2 p3 p4 p5 : Value} {x y : Int} (hP : atPt w B p0 p1 p2 p3 p4 p5 x y) :
    Calls Tryz.prog 14 #[.slice A n c, .agg #[p0, p1, p2, p3, p4, p5]] w fun e w' => e = .returned (.int .i64 (contB l (x, y))) ∧ Below w.heap.size w w' := by
  obtain ⟨hP, hxy⟩ := hP
  have hv := vecB_bounds hxy
  obtain ⟨W0, hW0⟩ : ∃ W0, W0 = w.alloc (.cells #[p0, p1, p2, p3, p4, p5] 44) := ⟨_, rfl⟩
  have hT0 : Below w.heap.size w W0 := by rw [hW0]; exact below_new _ _
  have kp : Box W0 w.heap.size 44 #[p0, p1, p2, p3, p4, p5] := by rw [hW0]; exact Box.last _ _ _ rfl
  have hB0 : B ≤ W0.heap.size := Nat.le_trans hB hT0.size
  have R0 := R.below (hT0.mono hB)
  have P0 := hP.below (hT0.mono hB)
  have HP := hide (impl_IsPolygon W0 B hB0 A n c l R0)
  clear R hP
  cases ep : polyB l with
  | false =>
    have HN : Hid (contB l (x, y) = -1) := by show _ = _; unfold contB; rw [ep]; rfl
    rw [ep] at HP
    clear R0 P0 ep
    go_enter Tryz.func14, Tryz.ntmps14
    go_upto_region 1 with fail
    rw [← hW0]
    clear hW0
    go_wp2_with fail
    refine HP.out.mono ?_
    rintro e w1 ⟨rfl, hb1⟩
    go_wp2_with fail
    go_ret
    exact ⟨ret_int HN.out.symm, below_then hT0 hb1⟩
  | true =>
    have hpp := polyB_iff.1 ep
    have h3 := hpp.1
    have h16 := hpp.2.1
    have HQ : Hid (contB l (x, y) = inN l (x, y) l.length) := by show _ = _; unfold contB; rw [if_pos ep]
    have HVX := hide (fun k (hk : k < l.length) => poly_vec hpp hk)
    rw [ep] at HP
    have HI := hide (fun (W : World) (hb : Below W0.heap.size W0 W) => impl_IsValidPoint W B (Nat.le_trans hB0 hb.size) (P0.below (hb.mono hB0)))
    have hq : (ratQ (vecP x y).1 && ratQ (vecP x y).2) = true := by
      show (ratQ (intQ x) && ratQ (intQ y)) = true
      rw [ratQ_int hv.1 hv.2.1, ratQ_int hv.2.2.1 hv.2.2.2]; rfl
    rw [hq] at HI
    obtain ⟨⟨A1, n1, c1, D1, m1, d1, rfl, rfl, rfl, r1, r2, -, -⟩, ⟨A2, n2, c2, D2, m2, d2, rfl, rfl, rfl, r3, r4, -, -⟩⟩ := P0
    have HS := hide (fun (W : World) (hb : Below W0.heap.size W0 W) => impl_scaledOf W B (Nat.le_trans hB0 hb.size) (capZ x).1 A1 n1 c1 (capZ x).2 (r1.below (hb.mono hB0)) D1 m1 d1 [1] (r2.below (hb.mono hB0)) (capZ y).1 A2 n2 c2 (capZ y).2 (r3.below (hb.mono hB0)) D2 m2 d2 [1] (r4.below (hb.mono hB0)))
    rw [mulZ_one hv.1 hv.2.1, mulZ_one hv.2.2.1 hv.2.2.2, mulL_one] at HS
    clear ep hpp hq r1 r2 r3 r4
    obtain ⟨hn, hx, hl, hwf⟩ := R0
    have HKP := hide kp
    obtain ⟨⟨q0, q1, q2, q3, q4, q5⟩, -⟩ := kp.facts6
    go_enter Tryz.func14, Tryz.ntmps14
    go_upto_region 1 with fail
    rw [← hW0]
    clear hW0 kp
    go_wp2_with fail
    refine HP.out.mono ?_
    rintro e w1 ⟨rfl, hb1⟩
    clear q0 q1 q2 q3 q4 q5
    obtain ⟨⟨q0, q1, q2, q3, q4, q5⟩, -⟩ := (HKP.out.below hb1 HKP.out.lt).facts6
    go_wp2_with fail
    refine (HI.out _ hb1).mono ?_
    rintro e w2 ⟨rfl, hb2⟩
    clear q0 q1 q2 q3 q4 q5
    have hb2 := below_then hb1 hb2
    obtain ⟨⟨q0, q1, q2, q3, q4, q5⟩, -⟩ := (HKP.out.below hb2 HKP.out.lt).facts6
    clear hb1
    go_wp2_with fail
    refine (HS.out _ hb2).mono ?_
    rintro e w3 ⟨v1, v2, v3, rfl, o1, o2, o3, hb3⟩
    obtain ⟨A3, c3, rfl⟩ := o1.form
    obtain ⟨A4, c4, rfl⟩ := o2.form
    obtain ⟨A5, c5, rfl⟩ := o3.form
    have hb3 := below_then hb2 hb3
    have hT3 := below_then hT0 hb3
    have RX := RdI.of_own o1 (capZ_len2 _) (capZ_limbs _)
    have RY := RdI.of_own o2 (capZ_len2 _) (capZ_limbs _)
    have RS : RdI w3 w3.heap.size A5 1 [1] := RdI.of_own o3 (by simp) (by have := capZ_limbs 1; rw [cap_one] at this; exact this)
    clear q0 q1 q2 q3 q4 q5 hb2 o1 o2 o3 HP HI HS HKP
    obtain ⟨W4, hW4⟩ : ∃ W4, W4 = w3.alloc (.cells #[.bool (capZ x).1, .slice A3 (capZ x).2.length c3, .bool (capZ y).1, .slice A4 (capZ y).2.length c4, .bool false, .slice A5 1 c5] 65) := ⟨_, rfl⟩
    have hb34 : Below w3.heap.size w3 W4 := by rw [hW4]; exact below_new _ _
    have k5 : Box W4 w3.heap.size 65 #[.bool (capZ x).1, .slice A3 (capZ x).2.length c3, .bool (capZ y).1, .slice A4 (capZ y).2.length c4, .bool false, .slice A5 1 c5] := by rw [hW4]; exact Box.last _ _ _ rfl
    have hT4 := below_then hT3 hb34
    have RX := RX.below hb34
    have RY := RY.below hb34
    have RS := RS.below hb34
    have h34 := hb34.size
    have hx4 := (hx.below (hb3.mono hB0)).below (hb34.mono (Nat.le_trans hB hT3.size))
    have hBW : B ≤ W4.heap.size := Nat.le_trans hB hT4.size
    obtain ⟨g5, hg5⟩ : ∃ g5, g5 = w3.heap.size := ⟨_, rfl⟩
    rw [← hg5] at k5
    go_upto_region 4 with fail
    rw [← hW4, ← hg5]
    clear hW4 hg5 hb34 hb3 hx
    obtain ⟨V4, hV⟩ : ∃ z, z = W4 := ⟨_, rfl⟩
    subst hV
    go_wp2_with fail
    go_loopw [6, 22] (fun s i wr => ∃ k : Nat, k ≤ n ∧ i = .int .i64 k ∧ s = .int .i64 (inN l (x, y) k) ∧ Below V4.heap.size V4 wr) (fun _ i _ => n - (intOf i).toNat)
    case atStart => exact ⟨0, Nat.zero_le _, rfl, rfl, Below.refl _ _⟩
    case round =>
      obtain ⟨k, hk, rfl, rfl, hbel⟩ := hrel
      by_cases hlt : k < n
      · obtain ⟨ad, hA, hb1, hc1, hc2⟩ := (hx4.below (hbel.mono hBW)).vec (k := k) (by omega)
        have hkl : k < l.length := by omega
        have hmo : ((k : Int) + 1) % (n : Int) = (((k + 1) % n : Nat) : Int) := by rw [Int.natCast_emod]; rfl
        have hp : (k + 1) % n < n := Nat.mod_lt _ (by omega)
        have hpl : Hid ((k + 1) % l.length = (k + 1) % n) := by show _ = _; rw [hn]
        generalize (k + 1) % n = p at *
        have hpl2 : p < l.length := by omega
        have hvk := HVX.out k hkl
        have hvp := HVX.out p hpl2
        rw [atV_eq hkl] at hvk
        rw [atV_eq hpl2] at hvp
        have HC := hide (fun (W : World) (hb : Below V4.heap.size V4 W) => show Calls Tryz.prog 33 #[.agg #[.bool (capZ x).1, .slice A3 (capZ x).2.length c3, .bool (capZ y).1, .slice A4 (capZ y).2.length c4, .bool false, .slice A5 1 c5], .agg #[.int .i64 l[k].1, .int .i64 l[k].2], .agg #[.int .i64 l[p].1, .int .i64 l[p].2]] W fun e w' => e = .returned (.int .i64 (sgE l (x, y) k)) ∧ Below W.heap.size W w' from by
          have h := impl_sideOf W V4.heap.size hb.size x y 1 A3 A4 A5 _ c3 _ c4 1 c5 (pair_up (RX.below (hb.mono h34)) h34) (pair_up (RY.below (hb.mono h34)) h34) (by rw [cap_one]; exact pair_up (RS.below (hb.mono h34)) h34) (by omega) (by omega) (by omega) l[k].1 l[k].2 l[p].1 l[p].2 hvk hvp
          rw [cap_one, cmp_sgE hkl hpl2 hpl.out] at h
          exact h)
        have hsr := sgE_range l (x, y) k
        have hir := inN_range l (x, y) k
        have HN1 : Hid (inN l (x, y) (k + 1) = min (inN l (x, y) k) (sgE l (x, y) k)) := rfl
        have HNg : Hid (sgE l (x, y) k < 0 → inN l (x, y) l.length = -1) := fun h => by
          have h1 := inN_le l (x, y) l.length k hkl
          have h2 := (inN_range l (x, y) l.length).1
          omega
        generalize sgE l (x, y) k = sg at *
        generalize inN l (x, y) k = ac at *
        clear hvk hvp
        generalize l[k].1 = x0 at *
        generalize l[k].2 = y0 at *
        obtain ⟨W0', hW0⟩ : ∃ W0', W0' = wr.alloc (.cells #[.int .i64 x0, .int .i64 y0] 26) := ⟨_, rfl⟩
        have ka : Box W0' wr.heap.size 26 #[.int .i64 x0, .int .i64 y0] := by rw [hW0]; exact Box.last _ _ _ rfl
        have hT : Below wr.heap.size wr W0' := by rw [hW0]; exact below_new _ _
        have hT0' := hbel.trans (hT.mono hbel.size)
        subst hA
        go_upto_region 7 with fail
        rw [← hW0]
        clear hW0 hc1 hc2
        obtain ⟨ad', hA', hb2, hc1, hc2⟩ := (hx4.below (hT0'.mono hBW)).vec (k := p) (by omega)
        cases hA'
        have hx' : (ad.add (p * 2)).block < W0'.heap.size := by rw [add_block]; have := hT0'.size; omega
        have hl0 := ka.lt
        have k5' := k5.below hT0' k5.lt
        have hl5 := k5'.lt
        obtain ⟨ya0, ya1⟩ := ka.cells2
        obtain ⟨⟨q0, q1, q2, q3, q4, q5⟩, -⟩ := k5'.facts6
        generalize l[p].1 = x2 at *
        generalize l[p].2 = y2 at *
        have hm0 : ((k : Int) + 1).tmod (n : Int) = (p : Int) := by rw [Int.tmod_eq_emod_of_nonneg (by omega)]; exact hmo
        have hw1 : IntKind.i64.wrap ((k : Int) + 1) = (k : Int) + 1 := IntWalk.i64_in _ (by omega)
        have hw2 : IntKind.i64.wrap (p : Int) = (p : Int) := IntWalk.i64_in _ (by omega)
        have hi1 : 0 ≤ (p : Int) := Int.natCast_nonneg _
        have hi2 : (p : Int) < (n : Int) := by omega
        have hi3 : 0 ≤ (k : Int) + 1 := by omega
        have hi4 : 0 < (n : Int) := by omega
        have hi6 : p < n := hp
        have hi7 : n ≠ 0 := by omega
        have hi8 : (((n : Int) == 0) = false) := by simpa using hi7
        clear hpl RX RY RS k5' ka
        go_region_held3 (fun w' => w'.cell? ⟨wr.heap.size, 0, none⟩ = some (.int .i64 x0) ∧ w'.cell? ⟨wr.heap.size, 1, none⟩ = some (.int .i64 y0) ∧ w'.cell? (ad.add (p * 2)) = some (.int .i64 x2) ∧ w'.cell? ⟨(ad.add (p * 2)).block, (ad.add (p * 2)).off + 1, none⟩ = some (.int .i64 y2) ∧ w'.cell? ⟨g5, 0, none⟩ = some (.bool (capZ x).1) ∧ w'.cell? ⟨g5, 1, none⟩ = some (.slice A3 (capZ x).2.length c3) ∧ w'.cell? ⟨g5, 2, none⟩ = some (.bool (capZ y).1) ∧ w'.cell? ⟨g5, 3, none⟩ = some (.slice A4 (capZ y).2.length c4) ∧ w'.cell? ⟨g5, 4, none⟩ = some (.bool false) ∧ w'.cell? ⟨g5, 5, none⟩ = some (.slice A5 1 c5) ∧ Below W0'.heap.size W0' w')
            (first | exact ⟨ya0, ya1, hc1, hc2, q0, q1, q2, q3, q4, q5, (Below.refl _ _).drew⟩ | exact ⟨(hb9.cell hl0).trans ya0, (hb9.cell (p := ⟨_, _, none⟩) hl0).trans ya1, (hb9.cell hx').trans hc1, (hb9.cell (p := ⟨_, _, none⟩) hx').trans hc2, (hb9.cell (p := ⟨_, _, none⟩) hl5).trans q0, (hb9.cell (p := ⟨_, _, none⟩) hl5).trans q1, (hb9.cell (p := ⟨_, _, none⟩) hl5).trans q2, (hb9.cell (p := ⟨_, _, none⟩) hl5).trans q3, (hb9.cell (p := ⟨_, _, none⟩) hl5).trans q4, (hb9.cell (p := ⟨_, _, none⟩) hl5).trans q5, undrew hb9⟩)
            (first | (go_at_call 33; (with_reducible refine Calls.mono (HC.out _ hT0'.drew) ?_); rintro e w1 ⟨rfl, hb9⟩))
        have hT1 := hT0'.trans ((undrew hb9).mono hT0'.size)
        by_cases hs : sg < 0
        · have HN := hide (HNg.out hs)
          go_wp2_with fail
          go_ret
          exact ⟨ret_int (by rw [HQ.out, HN.out]), below_then hT4 hT1⟩
        · go_wp2_with fail
          go_roundw
          case rel => exact ⟨k + 1, by omega, by go_num, by first | (rw [HN1.out]; congr 1; split <;> omega) | rw [HN1.out], hT1⟩
          case measure => simp [intOf]; omega
      · obtain rfl : k = n := by omega
        have HN : Hid (inN l (x, y) l.length = inN l (x, y) k) := by show _ = _; rw [hn]
        clear hx4
        go_wp2_with fail
        go_ret
        exact ⟨ret_int (by rw [HQ.out, HN.out]), below_then hT4 hbel⟩
end Go.Proofs.YtdagomikjblgiaaGreatDoor

/-
  Polygons moved, negated, measured: what the law of polygons asks.
-/



namespace Go.Proofs.YtdagomikjblgiaaGreatDoor
open Go.RowKit
set_option linter.unusedVariables false
theorem poly_allP {l : List V2} (h : polyP l) : allV l = true := List.all_eq_true.2 fun x hx => by obtain ⟨i, hi, rfl⟩ := mem_at hx; exact poly_vec h hi
theorem poly_moveP {l : List V2} (h : polyP l) {v : V2} (hv : allV (l.map fun p => addV p v) = true) : polyP (l.map fun p => addV p v) := by
  refine ⟨by rw [List.length_map]; exact h.1, by rw [List.length_map]; exact h.2.1, fun i hi j hj n1 n2 => ?_⟩
  rw [List.length_map] at *
  have hi1 : (i + 1) % l.length < l.length := Nat.mod_lt _ (by omega)
  have := h.2.2 i hi j hj n1 n2
  have hn : ∀ k, k < l.length → vecV (addV (atV l k) v) = true := fun k hk => List.all_eq_true.1 hv _ (List.mem_map_of_mem (at_mem hk))
  rw [at_map _ hi, at_map _ hi1, at_map _ hj, tV_tn (hn i hi) (hn _ hi1) (hn j hj), tn_addr]
  rwa [tV_tn (poly_vec h hi) (poly_vec h hi1) (poly_vec h hj)] at this
theorem fan_move (a v : V2) : ∀ r : List V2, fan (addV a v) (r.map fun p => addV p v) = fan a r := by
  intro r
  induction r with
  | nil => rfl
  | cons b r ih =>
    match r, ih with
    | [], _ => rfl
    | c :: r, ih =>
      simp only [List.map_cons] at ih ⊢
      simp only [fan] at ih ⊢
      rw [ih, tn_addr]
theorem area_move (v : V2) (l : List V2) : area2 (l.map fun p => addV p v) = area2 l := by
  match l with
  | [] => rfl
  | a :: r => exact fan_move a v r
theorem move_back (u v : V2) (h : addV u v = (0, 0)) (l : List V2) : (l.map fun p => addV p u).map (fun p => addV p v) = l := by
  rw [List.map_map]
  conv => rhs; rw [← List.map_id l]
  refine List.map_congr_left fun p _ => ?_
  have h1 : u.1 + v.1 = 0 := congrArg Prod.fst h
  have h2 : u.2 + v.2 = 0 := congrArg Prod.snd h
  exact Prod.ext (show p.1 + u.1 + v.1 = p.1 by omega) (show p.2 + u.2 + v.2 = p.2 by omega)
/-- a polygon is wide in both directions -/
theorem poly_wide {l : List V2} (h : polyP l) : (loN l l.length).1 < (hiN l l.length).1 ∧ (loN l l.length).2 < (hiN l l.length).2 := by
  obtain ⟨a, b, c, ha, hb, hc, ht⟩ := poly_three h
  have hp : ∀ p ∈ l, ((loN l l.length).1 ≤ p.1 ∧ (loN l l.length).2 ≤ p.2) ∧ (p.1 ≤ (hiN l l.length).1 ∧ p.2 ≤ (hiN l l.length).2) := fun p hp => by
    obtain ⟨i, hi, rfl⟩ := mem_at hp
    exact ⟨loN_le l l.length i hi, hiN_le l l.length i hi⟩
  have pa := hp a ha
  have pb := hp b hb
  have pc := hp c hc
  constructor
  · rcases Int.lt_or_le (loN l l.length).1 (hiN l l.length).1 with k | k
    · exact k
    · exfalso
      have e1 : b.1 - a.1 = 0 := by omega
      have e2 : c.1 - a.1 = 0 := by omega
      unfold tn at ht
      rw [e1, e2] at ht
      simp at ht
  · rcases Int.lt_or_le (loN l l.length).2 (hiN l l.length).2 with k | k
    · exact k
    · exfalso
      have e1 : b.2 - a.2 = 0 := by omega
      have e2 : c.2 - a.2 = 0 := by omega
      unfold tn at ht
      rw [e1, e2] at ht
      simp at ht
/-- what the law asks of one of its polygons and a vector -/
theorem one_poly {D : List V2} (hD : polyP D) (hd : ∀ v ∈ D, smallV v) {x y : Int} (hx : x.natAbs ≤ 10) (hy : y.natAbs ≤ 10) :
    areaB (mvL D (x, y)) = areaB D ∧ allV (mvL D (x, y)) = true ∧ negL (negL D) = D ∧ (negL D).length = D.length ∧ contB D (atV D 0) = 0 ∧
    (loB D).1 < (hiB D).1 ∧ (loB D).2 < (hiB D).2 ∧ allV (orgL D) = true ∧ mvL (orgL D) (loB D) = D ∧ vecV (loB D) = true := by
  have hB := polyB_iff.2 hD
  have hv : vecV (x, y) = true := by unfold vecV vecB; simp; omega
  have hmv : allV (D.map fun p => addV p (x, y)) = true := List.all_eq_true.2 fun q hq => by
    obtain ⟨p, hp, rfl⟩ := List.mem_map.1 hq
    obtain ⟨k1, k2⟩ := hd p hp
    unfold addV vecV vecB
    simp
    omega
  have hM : mvL D (x, y) = D.map fun p => addV p (x, y) := by unfold mvL; rw [if_pos ⟨hv, hmv⟩]
  have hMp := poly_moveP hD hmv
  have hN : negL D = D.map ng := by unfold negL; rw [if_pos (poly_allP hD)]
  have hN2 : negL (D.map ng) = (D.map ng).map ng := by unfold negL; rw [if_pos (poly_allP (poly_ng hD))]
  have h0 : 0 < D.length := by have := hD.1; omega
  obtain ⟨⟨i, hi, ei⟩, ⟨j, hj, ej⟩⟩ := loN_mem D h0 D.length (Nat.le_refl _)
  have s1 := hd _ (at_mem hi)
  have s2 := hd _ (at_mem hj)
  obtain ⟨s1, -⟩ := s1
  obtain ⟨-, s2⟩ := s2
  rw [← ei] at s1
  rw [← ej] at s2
  have hlv : vecV (loN D D.length) = true := loN_vec hD (Nat.le_refl _)
  have hnv : vecV (ng (loN D D.length)) = true := by unfold ng vecV vecB; simp; omega
  have hov : allV (D.map fun p => addV p (ng (loN D D.length))) = true := List.all_eq_true.2 fun q hq => by
    obtain ⟨p, hp, rfl⟩ := List.mem_map.1 hq
    obtain ⟨k1, k2⟩ := hd p hp
    unfold addV ng vecV vecB
    simp
    omega
  have hO : orgL D = D.map fun p => addV p (ng (loN D D.length)) := by rw [orgL_is hB]; unfold mvL; rw [if_pos ⟨hnv, hov⟩]
  have hback : (D.map fun p => addV p (ng (loN D D.length))).map (fun p => addV p (loN D D.length)) = D := move_back _ _ (by unfold addV ng; exact Prod.ext (by simp only; omega) (by simp only; omega)) D
  obtain ⟨w1, w2⟩ := poly_wide hD
  refine ⟨?_, by rw [hM]; exact hmv, by rw [hN, hN2, ng_ng_map], by rw [hN, List.length_map], contB_first hD, by rw [loB_is hB, hiB_is hB]; exact w1, by rw [loB_is hB, hiB_is hB]; exact w2, by rw [hO]; exact hov, ?_, by rw [loB_is hB]; exact hlv⟩
  · rw [hM]
    unfold areaB
    rw [if_pos (polyB_iff.2 hMp), if_pos hB, area_move]
  · rw [hO, loB_is hB]
    unfold mvL
    rw [hback, if_pos ⟨hlv, poly_allP hD⟩]
end Go.Proofs.YtdagomikjblgiaaGreatDoor
