/-
  The program's big integers: contracts (5): plus.
-/
import Derived.Test.YtnbaookdeijhhaaBA
namespace Go.Proofs.Ytnbaookdeijhhaa
open Go.RowKit
set_option linter.unusedVariables false

theorem plus_same {s : Bool} {xs ys : List Int} (hx : natB xs = true) (hy : natB ys = true) : (s && !(addL xs ys).isEmpty, addL xs ys) = capZ (zv s xs + zv s ys) := by
  have e : addL xs ys = capL (natV xs + natV ys) := by rw [addL, hx, hy]; rfl
  rw [capZ_make' s (natV xs + natV ys) _ _ e rfl, zv_nat hx, zv_nat hy]
  cases s
  · simp
  · simp; congr 1; omega
theorem subL_cap {xs ys : List Int} (hx : natB xs = true) (hy : natB ys = true) : subL xs ys = capL (natV xs - natV ys) := by
  rw [subL, hx, hy]
  show limbs _ = _
  rw [capL_of]
  have := natB_lt hx; omega
theorem plus_diff {s t : Bool} {xs ys : List Int} (hx : natB xs = true) (hy : natB ys = true) (h : s = !t) (hle : val ys ≤ val xs) : (s && !(subL xs ys).isEmpty, subL xs ys) = capZ (zv s xs + zv t ys) := by
  have h1 := natV_val hx
  have h2 := natV_val hy
  rw [capZ_make' s (natV xs - natV ys) _ _ (subL_cap hx hy) rfl, zv_nat hx, zv_nat hy]
  subst h
  cases t
  · simp; congr 1; omega
  · simp; congr 1; omega
/-- what plus answers: a sign and a list that make the sum -/
def PlusR (w w' : World) (e : Ending) (z : Int) : Prop := ∃ (v : Value) (g : Bool) (L : List Int), e = .returned (.agg #[v, .bool g]) ∧ (g && !L.isEmpty, L) = capZ z ∧ Own w' w.heap.size w'.heap.size 3 v L.length (iv L) ∧ Below w.heap.size w w'
set_option maxHeartbeats 1600000 in
theorem impl_plus_same (w : World) (B : Nat) (hB : B ≤ w.heap.size) (s : Bool) (A : Option Addr) (n c : Nat) (xs : List Int) (Rx : RdI w B A n xs) (hx : natB xs = true) (A' : Option Addr) (m c' : Nat) (ys : List Int) (Ry : RdI w B A' m ys) (hy : natB ys = true) :
    Calls Try.prog 133 #[.agg #[.slice A n c, .bool s], .agg #[.slice A' m c', .bool s]] w fun e w' => PlusR w w' e (zv s xs + zv s ys) := by
  obtain ⟨W0, hW0⟩ : ∃ W0, W0 = ((w.alloc (.cells #[.slice A n c, .bool s] 92)).alloc (.cells #[.slice A' m c', .bool s] 92)).alloc (.cells #[.slice none 0 0, .bool false] 92) := ⟨_, rfl⟩
  have hb0 : Below w.heap.size w W0 := by rw [hW0]; exact below_alloc (below_alloc (below_new _ _) _) _
  have kx : Box W0 w.heap.size 92 #[.slice A n c, .bool s] := by rw [hW0]; exact ((Box.last _ _ _ rfl).alloc _).alloc _
  have ky : Box W0 (w.heap.size + 1) 92 #[.slice A' m c', .bool s] := by rw [hW0]; exact (Box.last _ _ _ (alloc_size _ _).symm).alloc _
  have kr : Box W0 (w.heap.size + 2) 92 #[.slice none 0 0, .bool false] := by rw [hW0]; exact Box.last _ _ _ (by rw [alloc_size, alloc_size])
  have hs0 : W0.heap.size = w.heap.size + 3 := by rw [hW0, alloc_size, alloc_size, alloc_size]
  have R0 := Rx.below (hb0.mono hB)
  have R1 := Ry.below (hb0.mono hB)
  have x0 := kx.cell 0
  have x1 := kx.cell 1
  have y0 := ky.cell 0
  have y1 := ky.cell 1
  simp only [List.getElem?_toArray, List.getElem?_cons_zero, List.getElem?_cons_succ] at x0 x1 y0 y1
  have HB0 := hide hb0
  have HX := hide kx
  have HY := hide ky
  have HR := hide kr
  have hss : (s == s) = true := by cases s <;> rfl
  have HS0 : Hid (Below W0.heap.size W0 W0.drew) := (Below.refl _ _).drew
  have HKS := hide (fun (W : World) (h : Below W0.heap.size W0 W) => (⟨(HX.out.below h HX.out.lt).cell 0, (HX.out.below h HX.out.lt).cell 1, (HY.out.below h HY.out.lt).cell 0, (HY.out.below h HY.out.lt).cell 1⟩ : W.cell? ⟨w.heap.size, 0, none⟩ = some (.slice A n c) ∧ W.cell? ⟨w.heap.size, 1, none⟩ = some (.bool s) ∧ W.cell? ⟨w.heap.size + 1, 0, none⟩ = some (.slice A' m c') ∧ W.cell? ⟨w.heap.size + 1, 1, none⟩ = some (.bool s)))
  have HKR := hide (fun (W : World) (h : Below W0.heap.size W0 W) => (⟨(HR.out.below h HR.out.lt).cell 0, (HR.out.below h HR.out.lt).cell 1, (HR.out.below h HR.out.lt).frozen 0, (HR.out.below h HR.out.lt).frozen 1⟩ : W.cell? ⟨w.heap.size + 2, 0, none⟩ = some (.slice none 0 0) ∧ W.cell? ⟨w.heap.size + 2, 1, none⟩ = some (.bool false) ∧ W.frozen? ⟨w.heap.size + 2, 0, none⟩ = false ∧ W.frozen? ⟨w.heap.size + 2, 1, none⟩ = false))
  have HKT := hide (fun (W : World) (h : Below W0.heap.size W0 W) (x y : Value) => (⟨(((HX.out.below h HX.out.lt).setv (show w.heap.size ≠ w.heap.size + 2 by omega) 0 x).setv (show w.heap.size ≠ w.heap.size + 2 by omega) 1 y).cell 0, (((HX.out.below h HX.out.lt).setv (show w.heap.size ≠ w.heap.size + 2 by omega) 0 x).setv (show w.heap.size ≠ w.heap.size + 2 by omega) 1 y).cell 1, (((HY.out.below h HY.out.lt).setv (show w.heap.size + 1 ≠ w.heap.size + 2 by omega) 0 x).setv (show w.heap.size + 1 ≠ w.heap.size + 2 by omega) 1 y).cell 0, (((HY.out.below h HY.out.lt).setv (show w.heap.size + 1 ≠ w.heap.size + 2 by omega) 0 x).setv (show w.heap.size + 1 ≠ w.heap.size + 2 by omega) 1 y).cell 1⟩ : ((W.setCell ⟨w.heap.size + 2, 0, none⟩ x).setCell ⟨w.heap.size + 2, 1, none⟩ y).cell? ⟨w.heap.size, 0, none⟩ = some (.slice A n c) ∧ ((W.setCell ⟨w.heap.size + 2, 0, none⟩ x).setCell ⟨w.heap.size + 2, 1, none⟩ y).cell? ⟨w.heap.size, 1, none⟩ = some (.bool s) ∧ ((W.setCell ⟨w.heap.size + 2, 0, none⟩ x).setCell ⟨w.heap.size + 2, 1, none⟩ y).cell? ⟨w.heap.size + 1, 0, none⟩ = some (.slice A' m c') ∧ ((W.setCell ⟨w.heap.size + 2, 0, none⟩ x).setCell ⟨w.heap.size + 2, 1, none⟩ y).cell? ⟨w.heap.size + 1, 1, none⟩ = some (.bool s)))
  have HC := hide (fun (W : World) (h : Below W0.heap.size W0 W) => impl_NatAdd W B (by have := h.size; omega) A n c xs (R0.below (h.mono (by omega))) A' m c' ys (R1.below (h.mono (by omega))))
  have HP := hide (plus_same (s := s) hx hy)
  clear hb0 kx ky kr R0 R1 Rx Ry hx hy
  go_enter Try.func133, Try.ntmps133
  go_wp2_with fail
  rw [← hW0]
  clear hW0
  go_wp2_with fail
  go_region_held3 (fun w' => w'.cell? ⟨w.heap.size, 0, none⟩ = some (.slice A n c) ∧ w'.cell? ⟨w.heap.size, 1, none⟩ = some (.bool s) ∧ w'.cell? ⟨w.heap.size + 1, 0, none⟩ = some (.slice A' m c') ∧ w'.cell? ⟨w.heap.size + 1, 1, none⟩ = some (.bool s))
      (first | (with_reducible exact HKT.out _ HS1.out _ _) | (with_reducible exact HKS.out _ HS1.out) | (with_reducible exact HKS.out _ HS0.out))
      (first
        | (go_at_call 126; refine (HC.out _ HS0.out).mono ?_; rintro e w1 ⟨v1, rfl, o1, hb1⟩; obtain ⟨A1, c1, rfl⟩ := o1.form; have HS1 := hide (below_then HS0.out hb1); obtain ⟨t0, t1, z0, z1⟩ := HKR.out _ HS1.out))
  have HO := hide (ret_bigS (x := .bool s) (HR.out.below HS1.out HR.out.lt) (o1) (below_then HB0.out HS1.out) (show w.heap.size ≤ w.heap.size + 2 by omega) (by show w.heap.size + 2 < W0.heap.size; omega) (Nat.le_refl _))
  clear o1 hb1 t0 t1 z0 z1
  go_wp2_with fail
  refine bodyPost_ret (results_cell_row rfl _ _ (w.heap.size + 2) _ #[.slice A1 (addL xs ys).length c1, .bool s] (0, 0) _ rfl HO.out.1 Try.underlying92 rfl Try.sizeSigned) rfl ?_
  exact ⟨_, _, _, rfl, HP.out, HO.out.2.1, HO.out.2.2⟩
set_option maxHeartbeats 1600000 in
theorem impl_plus_ge (w : World) (B : Nat) (hB : B ≤ w.heap.size) (s t : Bool) (hst : (s == t) = false) (hst' : s = !t) (A : Option Addr) (n c : Nat) (xs : List Int) (Rx : RdI w B A n xs) (hx : natB xs = true) (A' : Option Addr) (m c' : Nat) (ys : List Int) (Ry : RdI w B A' m ys) (hy : natB ys = true) (hc : val ys ≤ val xs) :
    Calls Try.prog 133 #[.agg #[.slice A n c, .bool s], .agg #[.slice A' m c', .bool t]] w fun e w' => PlusR w w' e (zv s xs + zv t ys) := by
  obtain ⟨W0, hW0⟩ : ∃ W0, W0 = ((w.alloc (.cells #[.slice A n c, .bool s] 92)).alloc (.cells #[.slice A' m c', .bool t] 92)).alloc (.cells #[.slice none 0 0, .bool false] 92) := ⟨_, rfl⟩
  have hb0 : Below w.heap.size w W0 := by rw [hW0]; exact below_alloc (below_alloc (below_new _ _) _) _
  have kx : Box W0 w.heap.size 92 #[.slice A n c, .bool s] := by rw [hW0]; exact ((Box.last _ _ _ rfl).alloc _).alloc _
  have ky : Box W0 (w.heap.size + 1) 92 #[.slice A' m c', .bool t] := by rw [hW0]; exact (Box.last _ _ _ (alloc_size _ _).symm).alloc _
  have kr : Box W0 (w.heap.size + 2) 92 #[.slice none 0 0, .bool false] := by rw [hW0]; exact Box.last _ _ _ (by rw [alloc_size, alloc_size])
  have hs0 : W0.heap.size = w.heap.size + 3 := by rw [hW0, alloc_size, alloc_size, alloc_size]
  have R0 := Rx.below (hb0.mono hB)
  have R1 := Ry.below (hb0.mono hB)
  have x0 := kx.cell 0
  have x1 := kx.cell 1
  have y0 := ky.cell 0
  have y1 := ky.cell 1
  simp only [List.getElem?_toArray, List.getElem?_cons_zero, List.getElem?_cons_succ] at x0 x1 y0 y1
  have HB0 := hide hb0
  have HX := hide kx
  have HY := hide ky
  have HR := hide kr
  obtain ⟨cv, hcv, hcl⟩ : ∃ cv : Int, cv = cmpV (val xs) (val ys) ∧ ¬ cv < 0 := ⟨_, rfl, by
    unfold cmpV; rw [if_neg (by omega)]; split <;> omega⟩
  have HCM := hide (impl_compare W0 B A A' n m c c' xs ys R0.1 R1.1 R0.2.1 R1.2.1 (by have := R0.2.2.1; omega) (by have := R1.2.2.1; omega) ((natB_iff xs).1 hx).1 ((natB_iff ys).1 hy).1)
  rw [← hcv] at HCM
  clear hcv
  have HP := hide (plus_diff (s := s) (t := t) hx hy hst' (by omega))
  have HR0 := hide R0
  have HR1 := hide R1
  clear hb0 kx ky kr R0 R1 Rx Ry hx hy hc hst'
  go_enter Try.func133, Try.ntmps133
  go_wp2_with fail
  rw [← hW0]
  clear hW0
  go_wp2_with fail
  refine HCM.out.mono ?_
  rintro e w1 ⟨rfl, hd⟩
  have hb1 : Below W0.heap.size W0 w1 := by obtain ⟨d, rfl⟩ := hd; exact below_drewN (Below.refl _ _) d
  clear hd HCM x0 x1 y0 y1
  have kx := HX.out.below hb1 (by omega)
  have ky := HY.out.below hb1 (by omega)
  have kr := HR.out.below hb1 (by omega)
  have hs1 := hb1.size
  have hb1' := below_then HB0.out hb1
  have R0 := HR0.out.below (hb1.mono (by omega))
  have R1 := HR1.out.below (hb1.mono (by omega))
  have HX2 := hide kx
  have HY2 := hide ky
  have HR2 := hide kr
  have HB2 := hide hb1'
  clear HB0 HX HY HR HR0 HR1
  have HS0 : Hid (Below w1.heap.size w1 w1.drew) := (Below.refl _ _).drew
  have HKS := hide (fun (W : World) (h : Below w1.heap.size w1 W) => (⟨(HX2.out.below h HX2.out.lt).cell 0, (HX2.out.below h HX2.out.lt).cell 1, (HY2.out.below h HY2.out.lt).cell 0, (HY2.out.below h HY2.out.lt).cell 1⟩ : W.cell? ⟨w.heap.size, 0, none⟩ = some (.slice A n c) ∧ W.cell? ⟨w.heap.size, 1, none⟩ = some (.bool s) ∧ W.cell? ⟨w.heap.size + 1, 0, none⟩ = some (.slice A' m c') ∧ W.cell? ⟨w.heap.size + 1, 1, none⟩ = some (.bool t)))
  have HKR := hide (fun (W : World) (h : Below w1.heap.size w1 W) => (⟨(HR2.out.below h HR2.out.lt).cell 0, (HR2.out.below h HR2.out.lt).cell 1, (HR2.out.below h HR2.out.lt).frozen 0, (HR2.out.below h HR2.out.lt).frozen 1⟩ : W.cell? ⟨w.heap.size + 2, 0, none⟩ = some (.slice none 0 0) ∧ W.cell? ⟨w.heap.size + 2, 1, none⟩ = some (.bool false) ∧ W.frozen? ⟨w.heap.size + 2, 0, none⟩ = false ∧ W.frozen? ⟨w.heap.size + 2, 1, none⟩ = false))
  have HKT := hide (fun (W : World) (h : Below w1.heap.size w1 W) (x y : Value) => (⟨(((HX2.out.below h HX2.out.lt).setv (show w.heap.size ≠ w.heap.size + 2 by omega) 0 x).setv (show w.heap.size ≠ w.heap.size + 2 by omega) 1 y).cell 0, (((HX2.out.below h HX2.out.lt).setv (show w.heap.size ≠ w.heap.size + 2 by omega) 0 x).setv (show w.heap.size ≠ w.heap.size + 2 by omega) 1 y).cell 1, (((HY2.out.below h HY2.out.lt).setv (show w.heap.size + 1 ≠ w.heap.size + 2 by omega) 0 x).setv (show w.heap.size + 1 ≠ w.heap.size + 2 by omega) 1 y).cell 0, (((HY2.out.below h HY2.out.lt).setv (show w.heap.size + 1 ≠ w.heap.size + 2 by omega) 0 x).setv (show w.heap.size + 1 ≠ w.heap.size + 2 by omega) 1 y).cell 1⟩ : ((W.setCell ⟨w.heap.size + 2, 0, none⟩ x).setCell ⟨w.heap.size + 2, 1, none⟩ y).cell? ⟨w.heap.size, 0, none⟩ = some (.slice A n c) ∧ ((W.setCell ⟨w.heap.size + 2, 0, none⟩ x).setCell ⟨w.heap.size + 2, 1, none⟩ y).cell? ⟨w.heap.size, 1, none⟩ = some (.bool s) ∧ ((W.setCell ⟨w.heap.size + 2, 0, none⟩ x).setCell ⟨w.heap.size + 2, 1, none⟩ y).cell? ⟨w.heap.size + 1, 0, none⟩ = some (.slice A' m c') ∧ ((W.setCell ⟨w.heap.size + 2, 0, none⟩ x).setCell ⟨w.heap.size + 2, 1, none⟩ y).cell? ⟨w.heap.size + 1, 1, none⟩ = some (.bool t)))
  have HC := hide (fun (W : World) (h : Below w1.heap.size w1 W) => impl_NatSub W B (by have := h.size; omega) A n c xs (R0.below (h.mono (by omega))) A' m c' ys (R1.below (h.mono (by omega))))
  have gx0 := HX2.out.cell 0
  have gx1 := HX2.out.cell 1
  have gy0 := HY2.out.cell 0
  have gy1 := HY2.out.cell 1
  simp only [List.getElem?_toArray, List.getElem?_cons_zero, List.getElem?_cons_succ] at gx0 gx1 gy0 gy1
  clear kx ky kr R0 R1 hb1 hb1'
  go_wp2_with fail
  go_region_held3 (fun w' => w'.cell? ⟨w.heap.size, 0, none⟩ = some (.slice A n c) ∧ w'.cell? ⟨w.heap.size, 1, none⟩ = some (.bool s) ∧ w'.cell? ⟨w.heap.size + 1, 0, none⟩ = some (.slice A' m c') ∧ w'.cell? ⟨w.heap.size + 1, 1, none⟩ = some (.bool t))
      (first | (with_reducible exact HKT.out _ HS1.out _ _) | (with_reducible exact HKS.out _ HS1.out) | (with_reducible exact HKS.out _ HS0.out))
      (first
        | (go_at_call 140; refine (HC.out _ HS0.out).mono ?_; rintro e w3 ⟨v1, rfl, o1, hb1⟩; obtain ⟨A1, c1, rfl⟩ := o1.form; have HS1 := hide (below_then HS0.out hb1); obtain ⟨t0, t1, z0, z1⟩ := HKR.out _ HS1.out))
  have HO := hide (ret_bigS (x := .bool s) (HR2.out.below HS1.out HR2.out.lt) (o1) (below_then HB2.out HS1.out) (show w.heap.size ≤ w.heap.size + 2 by omega) (by show w.heap.size + 2 < w1.heap.size; omega) (Nat.le_refl _))
  clear o1 hb1 t0 t1 z0 z1
  go_wp2_with fail
  refine bodyPost_ret (results_cell_row rfl _ _ (w.heap.size + 2) _ #[.slice A1 (subL xs ys).length c1, .bool s] (0, 0) _ rfl HO.out.1 Try.underlying92 rfl Try.sizeSigned) rfl ?_
  exact ⟨_, _, _, rfl, HP.out, HO.out.2.1, HO.out.2.2⟩
set_option maxHeartbeats 1600000 in
theorem impl_plus_lt (w : World) (B : Nat) (hB : B ≤ w.heap.size) (s t : Bool) (hst : (s == t) = false) (hst' : t = !s) (A : Option Addr) (n c : Nat) (xs : List Int) (Rx : RdI w B A n xs) (hx : natB xs = true) (A' : Option Addr) (m c' : Nat) (ys : List Int) (Ry : RdI w B A' m ys) (hy : natB ys = true) (hc : val xs < val ys) :
    Calls Try.prog 133 #[.agg #[.slice A n c, .bool s], .agg #[.slice A' m c', .bool t]] w fun e w' => PlusR w w' e (zv s xs + zv t ys) := by
  obtain ⟨W0, hW0⟩ : ∃ W0, W0 = ((w.alloc (.cells #[.slice A n c, .bool s] 92)).alloc (.cells #[.slice A' m c', .bool t] 92)).alloc (.cells #[.slice none 0 0, .bool false] 92) := ⟨_, rfl⟩
  have hb0 : Below w.heap.size w W0 := by rw [hW0]; exact below_alloc (below_alloc (below_new _ _) _) _
  have kx : Box W0 w.heap.size 92 #[.slice A n c, .bool s] := by rw [hW0]; exact ((Box.last _ _ _ rfl).alloc _).alloc _
  have ky : Box W0 (w.heap.size + 1) 92 #[.slice A' m c', .bool t] := by rw [hW0]; exact (Box.last _ _ _ (alloc_size _ _).symm).alloc _
  have kr : Box W0 (w.heap.size + 2) 92 #[.slice none 0 0, .bool false] := by rw [hW0]; exact Box.last _ _ _ (by rw [alloc_size, alloc_size])
  have hs0 : W0.heap.size = w.heap.size + 3 := by rw [hW0, alloc_size, alloc_size, alloc_size]
  have R0 := Rx.below (hb0.mono hB)
  have R1 := Ry.below (hb0.mono hB)
  have x0 := kx.cell 0
  have x1 := kx.cell 1
  have y0 := ky.cell 0
  have y1 := ky.cell 1
  simp only [List.getElem?_toArray, List.getElem?_cons_zero, List.getElem?_cons_succ] at x0 x1 y0 y1
  have HB0 := hide hb0
  have HX := hide kx
  have HY := hide ky
  have HR := hide kr
  obtain ⟨cv, hcv, hcl⟩ : ∃ cv : Int, cv = cmpV (val xs) (val ys) ∧ cv < 0 := ⟨_, rfl, by
    unfold cmpV; rw [if_pos hc]; omega⟩
  have HCM := hide (impl_compare W0 B A A' n m c c' xs ys R0.1 R1.1 R0.2.1 R1.2.1 (by have := R0.2.2.1; omega) (by have := R1.2.2.1; omega) ((natB_iff xs).1 hx).1 ((natB_iff ys).1 hy).1)
  rw [← hcv] at HCM
  clear hcv
  have hxa := kx.frozen 0
  have hxb := kx.frozen 1
  have hya := ky.frozen 0
  have hyb := ky.frozen 1
  have HP := hide (show (t && !(subL ys xs).isEmpty, subL ys xs) = capZ (zv s xs + zv t ys) by rw [Int.add_comm]; exact plus_diff hy hx hst' (by omega))
  have HR0 := hide R0
  have HR1 := hide R1
  clear hb0 kx ky kr R0 R1 Rx Ry hx hy hc hst'
  go_enter Try.func133, Try.ntmps133
  go_wp2_with fail
  rw [← hW0]
  clear hW0
  go_wp2_with fail
  refine HCM.out.mono ?_
  rintro e w1 ⟨rfl, hd⟩
  have hb1 : Below W0.heap.size W0 w1 := by obtain ⟨d, rfl⟩ := hd; exact below_drewN (Below.refl _ _) d
  clear hd HCM x0 x1 y0 y1 hxa hxb hya hyb
  have kx := HX.out.below hb1 (by omega)
  have ky := HY.out.below hb1 (by omega)
  have kr := HR.out.below hb1 (by omega)
  have hs1 := hb1.size
  have hb1' := below_then HB0.out hb1
  have R0 := HR0.out.below (hb1.mono (by omega))
  have R1 := HR1.out.below (hb1.mono (by omega))
  have x0 := kx.cell 0
  have x1 := kx.cell 1
  have y0 := ky.cell 0
  have y1 := ky.cell 1
  simp only [List.getElem?_toArray, List.getElem?_cons_zero, List.getElem?_cons_succ] at x0 x1 y0 y1
  have fx0 := kx.frozen 0
  have fx1 := kx.frozen 1
  have fy0 := ky.frozen 0
  have fy1 := ky.frozen 1
  obtain ⟨W2, hW2⟩ : ∃ W2, W2 = (((w1.setCell ⟨w.heap.size, 0, none⟩ (.slice A' m c')).setCell ⟨w.heap.size, 1, none⟩ (.bool t)).setCell ⟨w.heap.size + 1, 0, none⟩ (.slice A n c)).setCell ⟨w.heap.size + 1, 1, none⟩ (.bool s) := ⟨_, rfl⟩
  have kx2 : Box W2 w.heap.size 92 #[.slice A' m c', .bool t] := by rw [hW2]; exact ((kx.set2 _ _).setv (by omega) 0 _).setv (by omega) 1 _
  have ky2 : Box W2 (w.heap.size + 1) 92 #[.slice A n c, .bool s] := by rw [hW2]; exact ((ky.setv (by omega) 0 _).setv (by omega) 1 _).set2 _ _
  have kr2 : Box W2 (w.heap.size + 2) 92 #[.slice none 0 0, .bool false] := by rw [hW2]; exact (((kr.setv (by omega) 0 _).setv (by omega) 1 _).setv (by omega) 0 _).setv (by omega) 1 _
  have hb2 : Below w.heap.size w W2 := by rw [hW2]; exact (((hb1'.setCell (p := ⟨w.heap.size, 0, none⟩) (Nat.le_refl _) _).setCell (p := ⟨w.heap.size, 1, none⟩) (Nat.le_refl _) _).setCell (p := ⟨w.heap.size + 1, 0, none⟩) (Nat.le_succ _) _).setCell (p := ⟨w.heap.size + 1, 1, none⟩) (Nat.le_succ _) _
  have hbB : Below B w1 W2 := by rw [hW2]; exact ((((Below.refl B w1).setCell (p := ⟨w.heap.size, 0, none⟩) hB _).setCell (p := ⟨w.heap.size, 1, none⟩) hB _).setCell (p := ⟨w.heap.size + 1, 0, none⟩) (Nat.le_succ_of_le hB) _).setCell (p := ⟨w.heap.size + 1, 1, none⟩) (Nat.le_succ_of_le hB) _
  have hs2 : W2.heap.size = w1.heap.size := by rw [hW2, setCell_size, setCell_size, setCell_size, setCell_size]
  have R02 := R0.below hbB
  have R12 := R1.below hbB
  clear hbB R0 R1
  have HX2 := hide kx2
  have HY2 := hide ky2
  have HR2 := hide kr2
  have HB2 := hide hb2
  clear HB0 HX HY HR kx ky kr hb1 hb1' kx2 ky2 kr2 hb2 HR0 HR1
  have HS0 : Hid (Below W2.heap.size W2 W2.drew) := (Below.refl _ _).drew
  have HKS := hide (fun (W : World) (h : Below W2.heap.size W2 W) => (⟨(HX2.out.below h HX2.out.lt).cell 0, (HX2.out.below h HX2.out.lt).cell 1, (HY2.out.below h HY2.out.lt).cell 0, (HY2.out.below h HY2.out.lt).cell 1⟩ : W.cell? ⟨w.heap.size, 0, none⟩ = some (.slice A' m c') ∧ W.cell? ⟨w.heap.size, 1, none⟩ = some (.bool t) ∧ W.cell? ⟨w.heap.size + 1, 0, none⟩ = some (.slice A n c) ∧ W.cell? ⟨w.heap.size + 1, 1, none⟩ = some (.bool s)))
  have HKR := hide (fun (W : World) (h : Below W2.heap.size W2 W) => (⟨(HR2.out.below h HR2.out.lt).cell 0, (HR2.out.below h HR2.out.lt).cell 1, (HR2.out.below h HR2.out.lt).frozen 0, (HR2.out.below h HR2.out.lt).frozen 1⟩ : W.cell? ⟨w.heap.size + 2, 0, none⟩ = some (.slice none 0 0) ∧ W.cell? ⟨w.heap.size + 2, 1, none⟩ = some (.bool false) ∧ W.frozen? ⟨w.heap.size + 2, 0, none⟩ = false ∧ W.frozen? ⟨w.heap.size + 2, 1, none⟩ = false))
  have HKT := hide (fun (W : World) (h : Below W2.heap.size W2 W) (x y : Value) => (⟨(((HX2.out.below h HX2.out.lt).setv (show w.heap.size ≠ w.heap.size + 2 by omega) 0 x).setv (show w.heap.size ≠ w.heap.size + 2 by omega) 1 y).cell 0, (((HX2.out.below h HX2.out.lt).setv (show w.heap.size ≠ w.heap.size + 2 by omega) 0 x).setv (show w.heap.size ≠ w.heap.size + 2 by omega) 1 y).cell 1, (((HY2.out.below h HY2.out.lt).setv (show w.heap.size + 1 ≠ w.heap.size + 2 by omega) 0 x).setv (show w.heap.size + 1 ≠ w.heap.size + 2 by omega) 1 y).cell 0, (((HY2.out.below h HY2.out.lt).setv (show w.heap.size + 1 ≠ w.heap.size + 2 by omega) 0 x).setv (show w.heap.size + 1 ≠ w.heap.size + 2 by omega) 1 y).cell 1⟩ : ((W.setCell ⟨w.heap.size + 2, 0, none⟩ x).setCell ⟨w.heap.size + 2, 1, none⟩ y).cell? ⟨w.heap.size, 0, none⟩ = some (.slice A' m c') ∧ ((W.setCell ⟨w.heap.size + 2, 0, none⟩ x).setCell ⟨w.heap.size + 2, 1, none⟩ y).cell? ⟨w.heap.size, 1, none⟩ = some (.bool t) ∧ ((W.setCell ⟨w.heap.size + 2, 0, none⟩ x).setCell ⟨w.heap.size + 2, 1, none⟩ y).cell? ⟨w.heap.size + 1, 0, none⟩ = some (.slice A n c) ∧ ((W.setCell ⟨w.heap.size + 2, 0, none⟩ x).setCell ⟨w.heap.size + 2, 1, none⟩ y).cell? ⟨w.heap.size + 1, 1, none⟩ = some (.bool s)))
  have HC := hide (fun (W : World) (h : Below W2.heap.size W2 W) => impl_NatSub W B (by have := h.size; omega) A' m c' ys (R12.below (h.mono (by omega))) A n c xs (R02.below (h.mono (by omega))))
  clear R02 R12
  go_wp2_with fail
  rw [← hW2]
  clear hW2
  try clear x0 x1 y0 y1 fx0 fx1 fy0 fy1
  have gx0 := HX2.out.cell 0
  have gx1 := HX2.out.cell 1
  have gy0 := HY2.out.cell 0
  have gy1 := HY2.out.cell 1
  simp only [List.getElem?_toArray, List.getElem?_cons_zero, List.getElem?_cons_succ] at gx0 gx1 gy0 gy1
  go_wp2_with fail
  go_region_held3 (fun w' => w'.cell? ⟨w.heap.size, 0, none⟩ = some (.slice A' m c') ∧ w'.cell? ⟨w.heap.size, 1, none⟩ = some (.bool t) ∧ w'.cell? ⟨w.heap.size + 1, 0, none⟩ = some (.slice A n c) ∧ w'.cell? ⟨w.heap.size + 1, 1, none⟩ = some (.bool s))
      (first | (with_reducible exact HKT.out _ HS1.out _ _) | (with_reducible exact HKS.out _ HS1.out) | (with_reducible exact HKS.out _ HS0.out))
      (first
        | (go_at_call 140; refine (HC.out _ HS0.out).mono ?_; rintro e w3 ⟨v1, rfl, o1, hb1⟩; obtain ⟨A1, c1, rfl⟩ := o1.form; have HS1 := hide (below_then HS0.out hb1); obtain ⟨t0, t1, z0, z1⟩ := HKR.out _ HS1.out))
  have HO := hide (ret_bigS (x := .bool t) (HR2.out.below HS1.out HR2.out.lt) (o1) (below_then HB2.out HS1.out) (show w.heap.size ≤ w.heap.size + 2 by omega) (by show w.heap.size + 2 < W2.heap.size; omega) (Nat.le_refl _))
  clear o1 hb1 t0 t1 z0 z1
  go_wp2_with fail
  refine bodyPost_ret (results_cell_row rfl _ _ (w.heap.size + 2) _ #[.slice A1 (subL ys xs).length c1, .bool t] (0, 0) _ rfl HO.out.1 Try.underlying92 rfl Try.sizeSigned) rfl ?_
  exact ⟨_, _, _, rfl, HP.out, HO.out.2.1, HO.out.2.2⟩
end Go.Proofs.Ytnbaookdeijhhaa
