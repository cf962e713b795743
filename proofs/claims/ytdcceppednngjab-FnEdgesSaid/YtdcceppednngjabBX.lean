/-
  The texts BigI5, BigI6, BigI8, BigI9, put together; each has its own heading below. No condition of ours.
-/
import Derived.Test.YtdcceppednngjabBA
import Derived.Test.YtdcceppednngjabIA
import Derived.Deep.CutRange
import Derived.Sort.AtCall
/-
  The program's big integers: contracts (5): plus.
-/

namespace Go.Proofs.Ytdcceppednngjab
open Go.RowKit
set_option linter.unusedVariables false

theorem val_nn {xs : List Int} (h : Canon xs) : 0 ≤ val xs := val_nonneg h.1
theorem plus_same {s : Bool} {xs ys : List Int} (hx : Canon xs) (hy : Canon ys) : SgnOk s (zv s xs + zv s ys) ∧ limbs (zv s xs + zv s ys).natAbs = limbs (val xs + val ys).toNat := by
  have h1 := val_nn hx
  have h2 := val_nn hy
  unfold zv SgnOk
  cases s
  · exact ⟨fun _ => (decide_eq_false (by simp; omega)).symm, by simp; congr 1; omega⟩
  · exact ⟨fun h => (decide_eq_true (by simp at h ⊢; omega)).symm, by simp; congr 1; omega⟩
theorem plus_diff {s t : Bool} {xs ys : List Int} (hx : Canon xs) (hy : Canon ys) (h : s = !t) (hle : val ys ≤ val xs) : SgnOk s (zv s xs + zv t ys) ∧ limbs (zv s xs + zv t ys).natAbs = limbs (val xs - val ys).toNat := by
  have h1 := val_nn hx
  have h2 := val_nn hy
  subst h
  unfold zv SgnOk
  cases t
  · exact ⟨fun h => (decide_eq_true (by simp at h ⊢; omega)).symm, by simp; congr 1; omega⟩
  · exact ⟨fun h => (decide_eq_false (by simp at h ⊢; omega)).symm, by simp; congr 1; omega⟩
/-- what plus answers: a sign and a list that make the number -/
def PlusR (w w' : World) (e : Ending) (z : Int) : Prop := ∃ (v : Value) (g : Bool), e = .returned (.agg #[v, .bool g]) ∧ SgnOk g z ∧ Own w' w.heap.size w'.heap.size 3 v (limbs z.natAbs).length (iv (limbs z.natAbs)) ∧ Below w.heap.size w w'
set_option maxHeartbeats 1600000 in
theorem impl_plus_same (w : World) (B : Nat) (hB : B ≤ w.heap.size) (s : Bool) (A : Option Addr) (n c : Nat) (xs : List Int) (Rx : RdI w B A n xs) (hx : Canon xs) (lx : n ≤ 900) (A' : Option Addr) (m c' : Nat) (ys : List Int) (Ry : RdI w B A' m ys) (hy : Canon ys) (ly : m ≤ 900) :
    Calls Try.prog 42 #[.agg #[.slice A n c, .bool s], .agg #[.slice A' m c', .bool s]] w fun e w' => PlusR w w' e (zv s xs + zv s ys) := by
  obtain ⟨W0, hW0⟩ : ∃ W0, W0 = ((w.alloc (.cells #[.slice A n c, .bool s] 68)).alloc (.cells #[.slice A' m c', .bool s] 68)).alloc (.cells #[.slice none 0 0, .bool false] 68) := ⟨_, rfl⟩
  have hb0 : Below w.heap.size w W0 := by rw [hW0]; exact below_alloc (below_alloc (below_new _ _) _) _
  have kx : Box W0 w.heap.size 68 #[.slice A n c, .bool s] := by rw [hW0]; exact ((Box.last _ _ _ rfl).alloc _).alloc _
  have ky : Box W0 (w.heap.size + 1) 68 #[.slice A' m c', .bool s] := by rw [hW0]; exact (Box.last _ _ _ (alloc_size _ _).symm).alloc _
  have kr : Box W0 (w.heap.size + 2) 68 #[.slice none 0 0, .bool false] := by rw [hW0]; exact Box.last _ _ _ (by rw [alloc_size, alloc_size])
  have hs0 : W0.heap.size = w.heap.size + 3 := by rw [hW0, alloc_size, alloc_size, alloc_size]
  have R0 := Rx.below (hb0.mono hB)
  have R1 := Ry.below (hb0.mono hB)
  have x0 := kx.cell 0
  have x1 := kx.cell 1
  have y0 := ky.cell 0
  have y1 := ky.cell 1
  simp only [List.getElem?_toArray, List.getElem?_cons_zero, List.getElem?_cons_succ] at x0 x1 y0 y1
  have HB0 := hide hb0
  have HX := hide kx
  have HY := hide ky
  have HR := hide kr
  have hss : (s == s) = true := by cases s <;> rfl
  have HS0 : Hid (Below W0.heap.size W0 W0.drew) := (Below.refl _ _).drew
  have HKS := hide (fun (W : World) (h : Below W0.heap.size W0 W) => (⟨(HX.out.below h HX.out.lt).cell 0, (HX.out.below h HX.out.lt).cell 1, (HY.out.below h HY.out.lt).cell 0, (HY.out.below h HY.out.lt).cell 1⟩ : W.cell? ⟨w.heap.size, 0, none⟩ = some (.slice A n c) ∧ W.cell? ⟨w.heap.size, 1, none⟩ = some (.bool s) ∧ W.cell? ⟨w.heap.size + 1, 0, none⟩ = some (.slice A' m c') ∧ W.cell? ⟨w.heap.size + 1, 1, none⟩ = some (.bool s)))
  have HKR := hide (fun (W : World) (h : Below W0.heap.size W0 W) => (⟨(HR.out.below h HR.out.lt).cell 0, (HR.out.below h HR.out.lt).cell 1, (HR.out.below h HR.out.lt).frozen 0, (HR.out.below h HR.out.lt).frozen 1⟩ : W.cell? ⟨w.heap.size + 2, 0, none⟩ = some (.slice none 0 0) ∧ W.cell? ⟨w.heap.size + 2, 1, none⟩ = some (.bool false) ∧ W.frozen? ⟨w.heap.size + 2, 0, none⟩ = false ∧ W.frozen? ⟨w.heap.size + 2, 1, none⟩ = false))
  have HKT := hide (fun (W : World) (h : Below W0.heap.size W0 W) (x y : Value) => (⟨(((HX.out.below h HX.out.lt).setv (show w.heap.size ≠ w.heap.size + 2 by omega) 0 x).setv (show w.heap.size ≠ w.heap.size + 2 by omega) 1 y).cell 0, (((HX.out.below h HX.out.lt).setv (show w.heap.size ≠ w.heap.size + 2 by omega) 0 x).setv (show w.heap.size ≠ w.heap.size + 2 by omega) 1 y).cell 1, (((HY.out.below h HY.out.lt).setv (show w.heap.size + 1 ≠ w.heap.size + 2 by omega) 0 x).setv (show w.heap.size + 1 ≠ w.heap.size + 2 by omega) 1 y).cell 0, (((HY.out.below h HY.out.lt).setv (show w.heap.size + 1 ≠ w.heap.size + 2 by omega) 0 x).setv (show w.heap.size + 1 ≠ w.heap.size + 2 by omega) 1 y).cell 1⟩ : ((W.setCell ⟨w.heap.size + 2, 0, none⟩ x).setCell ⟨w.heap.size + 2, 1, none⟩ y).cell? ⟨w.heap.size, 0, none⟩ = some (.slice A n c) ∧ ((W.setCell ⟨w.heap.size + 2, 0, none⟩ x).setCell ⟨w.heap.size + 2, 1, none⟩ y).cell? ⟨w.heap.size, 1, none⟩ = some (.bool s) ∧ ((W.setCell ⟨w.heap.size + 2, 0, none⟩ x).setCell ⟨w.heap.size + 2, 1, none⟩ y).cell? ⟨w.heap.size + 1, 0, none⟩ = some (.slice A' m c') ∧ ((W.setCell ⟨w.heap.size + 2, 0, none⟩ x).setCell ⟨w.heap.size + 2, 1, none⟩ y).cell? ⟨w.heap.size + 1, 1, none⟩ = some (.bool s)))
  have HC := hide (fun (W : World) (h : Below W0.heap.size W0 W) => impl_addLimbs W B (by have := h.size; omega) A n c xs (R0.below (h.mono (by omega))) A' m c' ys (R1.below (h.mono (by omega))) hx hy (by omega) (by omega))
  have HP := hide (plus_same (s := s) hx hy)
  clear hb0 kx ky kr R0 R1 Rx Ry hx hy
  go_enter Try.func42, Try.ntmps42
  go_wp2_with fail
  rw [← hW0]
  clear hW0
  go_wp2_with fail
  go_region_held3 (fun w' => w'.cell? ⟨w.heap.size, 0, none⟩ = some (.slice A n c) ∧ w'.cell? ⟨w.heap.size, 1, none⟩ = some (.bool s) ∧ w'.cell? ⟨w.heap.size + 1, 0, none⟩ = some (.slice A' m c') ∧ w'.cell? ⟨w.heap.size + 1, 1, none⟩ = some (.bool s))
      (first | (with_reducible exact HKT.out _ HS1.out _ _) | (with_reducible exact HKS.out _ HS1.out) | (with_reducible exact HKS.out _ HS0.out))
      (first
        | (go_at_call 60; refine (HC.out _ HS0.out).mono ?_; rintro e w1 ⟨v1, rfl, o1, hb1⟩; obtain ⟨A1, c1, rfl⟩ := o1.form; have HS1 := hide (below_then HS0.out hb1); obtain ⟨t0, t1, z0, z1⟩ := HKR.out _ HS1.out))
  have HO := hide (ret_bigS (x := .bool s) (HR.out.below HS1.out HR.out.lt) (o1) (below_then HB0.out HS1.out) (show w.heap.size ≤ w.heap.size + 2 by omega) (by show w.heap.size + 2 < W0.heap.size; omega) (Nat.le_refl _))
  clear o1 hb1 t0 t1 z0 z1
  go_wp2_with fail
  refine bodyPost_ret (results_cell_row rfl _ _ (w.heap.size + 2) _ #[.slice A1 (limbs (val xs + val ys).toNat).length c1, .bool s] (0, 0) _ rfl HO.out.1 Try.underlying68 rfl Try.sizeSigned) rfl ?_
  exact ⟨_, _, rfl, HP.out.1, by rw [HP.out.2]; exact HO.out.2.1, HO.out.2.2⟩
set_option maxHeartbeats 1600000 in
theorem impl_plus_ge (w : World) (B : Nat) (hB : B ≤ w.heap.size) (s t : Bool) (hst : (s == t) = false) (hst' : s = !t) (A : Option Addr) (n c : Nat) (xs : List Int) (Rx : RdI w B A n xs) (hx : Canon xs) (lx : n ≤ 900) (A' : Option Addr) (m c' : Nat) (ys : List Int) (Ry : RdI w B A' m ys) (hy : Canon ys) (ly : m ≤ 900) (hc : val ys ≤ val xs) :
    Calls Try.prog 42 #[.agg #[.slice A n c, .bool s], .agg #[.slice A' m c', .bool t]] w fun e w' => PlusR w w' e (zv s xs + zv t ys) := by
  obtain ⟨W0, hW0⟩ : ∃ W0, W0 = ((w.alloc (.cells #[.slice A n c, .bool s] 68)).alloc (.cells #[.slice A' m c', .bool t] 68)).alloc (.cells #[.slice none 0 0, .bool false] 68) := ⟨_, rfl⟩
  have hb0 : Below w.heap.size w W0 := by rw [hW0]; exact below_alloc (below_alloc (below_new _ _) _) _
  have kx : Box W0 w.heap.size 68 #[.slice A n c, .bool s] := by rw [hW0]; exact ((Box.last _ _ _ rfl).alloc _).alloc _
  have ky : Box W0 (w.heap.size + 1) 68 #[.slice A' m c', .bool t] := by rw [hW0]; exact (Box.last _ _ _ (alloc_size _ _).symm).alloc _
  have kr : Box W0 (w.heap.size + 2) 68 #[.slice none 0 0, .bool false] := by rw [hW0]; exact Box.last _ _ _ (by rw [alloc_size, alloc_size])
  have hs0 : W0.heap.size = w.heap.size + 3 := by rw [hW0, alloc_size, alloc_size, alloc_size]
  have R0 := Rx.below (hb0.mono hB)
  have R1 := Ry.below (hb0.mono hB)
  have x0 := kx.cell 0
  have x1 := kx.cell 1
  have y0 := ky.cell 0
  have y1 := ky.cell 1
  simp only [List.getElem?_toArray, List.getElem?_cons_zero, List.getElem?_cons_succ] at x0 x1 y0 y1
  have HB0 := hide hb0
  have HX := hide kx
  have HY := hide ky
  have HR := hide kr
  obtain ⟨cv, hcv, hcl⟩ : ∃ cv : Int, cv = cmpV (val xs) (val ys) ∧ ¬ cv < 0 := ⟨_, rfl, by
    unfold cmpV; rw [if_neg (by omega)]; split <;> omega⟩
  have HCM := hide (impl_compare W0 B A A' n m c c' xs ys R0.1 R1.1 R0.2.1 R1.2.1 (by have := R0.2.2.1; omega) (by have := R1.2.2.1; omega) hx hy)
  rw [← hcv] at HCM
  clear hcv
  have HP := hide (plus_diff (s := s) (t := t) hx hy hst' (by omega))
  have HCX := hide hx
  have HCY := hide hy
  have HLE := hide hc
  have HR0 := hide R0
  have HR1 := hide R1
  clear hb0 kx ky kr R0 R1 Rx Ry hx hy hc hst'
  go_enter Try.func42, Try.ntmps42
  go_wp2_with fail
  rw [← hW0]
  clear hW0
  go_wp2_with fail
  refine HCM.out.mono ?_
  rintro e w1 ⟨rfl, hd⟩
  have hb1 : Below W0.heap.size W0 w1 := by obtain ⟨d, rfl⟩ := hd; exact below_drewN (Below.refl _ _) d
  clear hd HCM x0 x1 y0 y1
  have kx := HX.out.below hb1 (by omega)
  have ky := HY.out.below hb1 (by omega)
  have kr := HR.out.below hb1 (by omega)
  have hs1 := hb1.size
  have hb1' := below_then HB0.out hb1
  have R0 := HR0.out.below (hb1.mono (by omega))
  have R1 := HR1.out.below (hb1.mono (by omega))
  have HX2 := hide kx
  have HY2 := hide ky
  have HR2 := hide kr
  have HB2 := hide hb1'
  clear HB0 HX HY HR HR0 HR1
  have HS0 : Hid (Below w1.heap.size w1 w1.drew) := (Below.refl _ _).drew
  have HKS := hide (fun (W : World) (h : Below w1.heap.size w1 W) => (⟨(HX2.out.below h HX2.out.lt).cell 0, (HX2.out.below h HX2.out.lt).cell 1, (HY2.out.below h HY2.out.lt).cell 0, (HY2.out.below h HY2.out.lt).cell 1⟩ : W.cell? ⟨w.heap.size, 0, none⟩ = some (.slice A n c) ∧ W.cell? ⟨w.heap.size, 1, none⟩ = some (.bool s) ∧ W.cell? ⟨w.heap.size + 1, 0, none⟩ = some (.slice A' m c') ∧ W.cell? ⟨w.heap.size + 1, 1, none⟩ = some (.bool t)))
  have HKR := hide (fun (W : World) (h : Below w1.heap.size w1 W) => (⟨(HR2.out.below h HR2.out.lt).cell 0, (HR2.out.below h HR2.out.lt).cell 1, (HR2.out.below h HR2.out.lt).frozen 0, (HR2.out.below h HR2.out.lt).frozen 1⟩ : W.cell? ⟨w.heap.size + 2, 0, none⟩ = some (.slice none 0 0) ∧ W.cell? ⟨w.heap.size + 2, 1, none⟩ = some (.bool false) ∧ W.frozen? ⟨w.heap.size + 2, 0, none⟩ = false ∧ W.frozen? ⟨w.heap.size + 2, 1, none⟩ = false))
  have HKT := hide (fun (W : World) (h : Below w1.heap.size w1 W) (x y : Value) => (⟨(((HX2.out.below h HX2.out.lt).setv (show w.heap.size ≠ w.heap.size + 2 by omega) 0 x).setv (show w.heap.size ≠ w.heap.size + 2 by omega) 1 y).cell 0, (((HX2.out.below h HX2.out.lt).setv (show w.heap.size ≠ w.heap.size + 2 by omega) 0 x).setv (show w.heap.size ≠ w.heap.size + 2 by omega) 1 y).cell 1, (((HY2.out.below h HY2.out.lt).setv (show w.heap.size + 1 ≠ w.heap.size + 2 by omega) 0 x).setv (show w.heap.size + 1 ≠ w.heap.size + 2 by omega) 1 y).cell 0, (((HY2.out.below h HY2.out.lt).setv (show w.heap.size + 1 ≠ w.heap.size + 2 by omega) 0 x).setv (show w.heap.size + 1 ≠ w.heap.size + 2 by omega) 1 y).cell 1⟩ : ((W.setCell ⟨w.heap.size + 2, 0, none⟩ x).setCell ⟨w.heap.size + 2, 1, none⟩ y).cell? ⟨w.heap.size, 0, none⟩ = some (.slice A n c) ∧ ((W.setCell ⟨w.heap.size + 2, 0, none⟩ x).setCell ⟨w.heap.size + 2, 1, none⟩ y).cell? ⟨w.heap.size, 1, none⟩ = some (.bool s) ∧ ((W.setCell ⟨w.heap.size + 2, 0, none⟩ x).setCell ⟨w.heap.size + 2, 1, none⟩ y).cell? ⟨w.heap.size + 1, 0, none⟩ = some (.slice A' m c') ∧ ((W.setCell ⟨w.heap.size + 2, 0, none⟩ x).setCell ⟨w.heap.size + 2, 1, none⟩ y).cell? ⟨w.heap.size + 1, 1, none⟩ = some (.bool t)))
  have HC := hide (fun (W : World) (h : Below w1.heap.size w1 W) => impl_subtractLimbs W B (by have := h.size; omega) A n c xs (R0.below (h.mono (by omega))) A' m c' ys (R1.below (h.mono (by omega))) HCX.out HCY.out (by omega) HLE.out)
  have gx0 := HX2.out.cell 0
  have gx1 := HX2.out.cell 1
  have gy0 := HY2.out.cell 0
  have gy1 := HY2.out.cell 1
  simp only [List.getElem?_toArray, List.getElem?_cons_zero, List.getElem?_cons_succ] at gx0 gx1 gy0 gy1
  clear kx ky kr R0 R1 hb1 hb1'
  go_wp2_with fail
  go_region_held3 (fun w' => w'.cell? ⟨w.heap.size, 0, none⟩ = some (.slice A n c) ∧ w'.cell? ⟨w.heap.size, 1, none⟩ = some (.bool s) ∧ w'.cell? ⟨w.heap.size + 1, 0, none⟩ = some (.slice A' m c') ∧ w'.cell? ⟨w.heap.size + 1, 1, none⟩ = some (.bool t))
      (first | (with_reducible exact HKT.out _ HS1.out _ _) | (with_reducible exact HKS.out _ HS1.out) | (with_reducible exact HKS.out _ HS0.out))
      (first
        | (go_at_call 62; refine (HC.out _ HS0.out).mono ?_; rintro e w3 ⟨v1, rfl, o1, hb1⟩; obtain ⟨A1, c1, rfl⟩ := o1.form; have HS1 := hide (below_then HS0.out hb1); obtain ⟨t0, t1, z0, z1⟩ := HKR.out _ HS1.out))
  have HO := hide (ret_bigS (x := .bool s) (HR2.out.below HS1.out HR2.out.lt) (o1) (below_then HB2.out HS1.out) (show w.heap.size ≤ w.heap.size + 2 by omega) (by show w.heap.size + 2 < w1.heap.size; omega) (Nat.le_refl _))
  clear o1 hb1 t0 t1 z0 z1
  go_wp2_with fail
  refine bodyPost_ret (results_cell_row rfl _ _ (w.heap.size + 2) _ #[.slice A1 (limbs (val xs - val ys).toNat).length c1, .bool s] (0, 0) _ rfl HO.out.1 Try.underlying68 rfl Try.sizeSigned) rfl ?_
  exact ⟨_, _, rfl, HP.out.1, by rw [HP.out.2]; exact HO.out.2.1, HO.out.2.2⟩
set_option maxHeartbeats 1600000 in
theorem impl_plus_lt (w : World) (B : Nat) (hB : B ≤ w.heap.size) (s t : Bool) (hst : (s == t) = false) (hst' : t = !s) (A : Option Addr) (n c : Nat) (xs : List Int) (Rx : RdI w B A n xs) (hx : Canon xs) (lx : n ≤ 900) (A' : Option Addr) (m c' : Nat) (ys : List Int) (Ry : RdI w B A' m ys) (hy : Canon ys) (ly : m ≤ 900) (hc : val xs < val ys) :
    Calls Try.prog 42 #[.agg #[.slice A n c, .bool s], .agg #[.slice A' m c', .bool t]] w fun e w' => PlusR w w' e (zv s xs + zv t ys) := by
  obtain ⟨W0, hW0⟩ : ∃ W0, W0 = ((w.alloc (.cells #[.slice A n c, .bool s] 68)).alloc (.cells #[.slice A' m c', .bool t] 68)).alloc (.cells #[.slice none 0 0, .bool false] 68) := ⟨_, rfl⟩
  have hb0 : Below w.heap.size w W0 := by rw [hW0]; exact below_alloc (below_alloc (below_new _ _) _) _
  have kx : Box W0 w.heap.size 68 #[.slice A n c, .bool s] := by rw [hW0]; exact ((Box.last _ _ _ rfl).alloc _).alloc _
  have ky : Box W0 (w.heap.size + 1) 68 #[.slice A' m c', .bool t] := by rw [hW0]; exact (Box.last _ _ _ (alloc_size _ _).symm).alloc _
  have kr : Box W0 (w.heap.size + 2) 68 #[.slice none 0 0, .bool false] := by rw [hW0]; exact Box.last _ _ _ (by rw [alloc_size, alloc_size])
  have hs0 : W0.heap.size = w.heap.size + 3 := by rw [hW0, alloc_size, alloc_size, alloc_size]
  have R0 := Rx.below (hb0.mono hB)
  have R1 := Ry.below (hb0.mono hB)
  have x0 := kx.cell 0
  have x1 := kx.cell 1
  have y0 := ky.cell 0
  have y1 := ky.cell 1
  simp only [List.getElem?_toArray, List.getElem?_cons_zero, List.getElem?_cons_succ] at x0 x1 y0 y1
  have HB0 := hide hb0
  have HX := hide kx
  have HY := hide ky
  have HR := hide kr
  obtain ⟨cv, hcv, hcl⟩ : ∃ cv : Int, cv = cmpV (val xs) (val ys) ∧ cv < 0 := ⟨_, rfl, by
    unfold cmpV; rw [if_pos hc]; omega⟩
  have HCM := hide (impl_compare W0 B A A' n m c c' xs ys R0.1 R1.1 R0.2.1 R1.2.1 (by have := R0.2.2.1; omega) (by have := R1.2.2.1; omega) hx hy)
  rw [← hcv] at HCM
  clear hcv
  have hxa := kx.frozen 0
  have hxb := kx.frozen 1
  have hya := ky.frozen 0
  have hyb := ky.frozen 1
  have HP := hide (show SgnOk t (zv s xs + zv t ys) ∧ limbs (zv s xs + zv t ys).natAbs = limbs (val ys - val xs).toNat by rw [Int.add_comm]; exact plus_diff hy hx hst' (by omega))
  have HCX := hide hx
  have HCY := hide hy
  have HLE := hide (Int.le_of_lt hc)
  have HR0 := hide R0
  have HR1 := hide R1
  clear hb0 kx ky kr R0 R1 Rx Ry hx hy hc hst'
  go_enter Try.func42, Try.ntmps42
  go_wp2_with fail
  rw [← hW0]
  clear hW0
  go_wp2_with fail
  refine HCM.out.mono ?_
  rintro e w1 ⟨rfl, hd⟩
  have hb1 : Below W0.heap.size W0 w1 := by obtain ⟨d, rfl⟩ := hd; exact below_drewN (Below.refl _ _) d
  clear hd HCM x0 x1 y0 y1 hxa hxb hya hyb
  have kx := HX.out.below hb1 (by omega)
  have ky := HY.out.below hb1 (by omega)
  have kr := HR.out.below hb1 (by omega)
  have hs1 := hb1.size
  have hb1' := below_then HB0.out hb1
  have R0 := HR0.out.below (hb1.mono (by omega))
  have R1 := HR1.out.below (hb1.mono (by omega))
  have x0 := kx.cell 0
  have x1 := kx.cell 1
  have y0 := ky.cell 0
  have y1 := ky.cell 1
  simp only [List.getElem?_toArray, List.getElem?_cons_zero, List.getElem?_cons_succ] at x0 x1 y0 y1
  have fx0 := kx.frozen 0
  have fx1 := kx.frozen 1
  have fy0 := ky.frozen 0
  have fy1 := ky.frozen 1
  obtain ⟨W2, hW2⟩ : ∃ W2, W2 = (((w1.setCell ⟨w.heap.size, 0, none⟩ (.slice A' m c')).setCell ⟨w.heap.size, 1, none⟩ (.bool t)).setCell ⟨w.heap.size + 1, 0, none⟩ (.slice A n c)).setCell ⟨w.heap.size + 1, 1, none⟩ (.bool s) := ⟨_, rfl⟩
  have kx2 : Box W2 w.heap.size 68 #[.slice A' m c', .bool t] := by rw [hW2]; exact ((kx.set2 _ _).setv (by omega) 0 _).setv (by omega) 1 _
  have ky2 : Box W2 (w.heap.size + 1) 68 #[.slice A n c, .bool s] := by rw [hW2]; exact ((ky.setv (by omega) 0 _).setv (by omega) 1 _).set2 _ _
  have kr2 : Box W2 (w.heap.size + 2) 68 #[.slice none 0 0, .bool false] := by rw [hW2]; exact (((kr.setv (by omega) 0 _).setv (by omega) 1 _).setv (by omega) 0 _).setv (by omega) 1 _
  have hb2 : Below w.heap.size w W2 := by rw [hW2]; exact (((hb1'.setCell (p := ⟨w.heap.size, 0, none⟩) (Nat.le_refl _) _).setCell (p := ⟨w.heap.size, 1, none⟩) (Nat.le_refl _) _).setCell (p := ⟨w.heap.size + 1, 0, none⟩) (Nat.le_succ _) _).setCell (p := ⟨w.heap.size + 1, 1, none⟩) (Nat.le_succ _) _
  have hbB : Below B w1 W2 := by rw [hW2]; exact ((((Below.refl B w1).setCell (p := ⟨w.heap.size, 0, none⟩) hB _).setCell (p := ⟨w.heap.size, 1, none⟩) hB _).setCell (p := ⟨w.heap.size + 1, 0, none⟩) (Nat.le_succ_of_le hB) _).setCell (p := ⟨w.heap.size + 1, 1, none⟩) (Nat.le_succ_of_le hB) _
  have hs2 : W2.heap.size = w1.heap.size := by rw [hW2, setCell_size, setCell_size, setCell_size, setCell_size]
  have R02 := R0.below hbB
  have R12 := R1.below hbB
  clear hbB R0 R1
  have HX2 := hide kx2
  have HY2 := hide ky2
  have HR2 := hide kr2
  have HB2 := hide hb2
  clear HB0 HX HY HR kx ky kr hb1 hb1' kx2 ky2 kr2 hb2 HR0 HR1
  have HS0 : Hid (Below W2.heap.size W2 W2.drew) := (Below.refl _ _).drew
  have HKS := hide (fun (W : World) (h : Below W2.heap.size W2 W) => (⟨(HX2.out.below h HX2.out.lt).cell 0, (HX2.out.below h HX2.out.lt).cell 1, (HY2.out.below h HY2.out.lt).cell 0, (HY2.out.below h HY2.out.lt).cell 1⟩ : W.cell? ⟨w.heap.size, 0, none⟩ = some (.slice A' m c') ∧ W.cell? ⟨w.heap.size, 1, none⟩ = some (.bool t) ∧ W.cell? ⟨w.heap.size + 1, 0, none⟩ = some (.slice A n c) ∧ W.cell? ⟨w.heap.size + 1, 1, none⟩ = some (.bool s)))
  have HKR := hide (fun (W : World) (h : Below W2.heap.size W2 W) => (⟨(HR2.out.below h HR2.out.lt).cell 0, (HR2.out.below h HR2.out.lt).cell 1, (HR2.out.below h HR2.out.lt).frozen 0, (HR2.out.below h HR2.out.lt).frozen 1⟩ : W.cell? ⟨w.heap.size + 2, 0, none⟩ = some (.slice none 0 0) ∧ W.cell? ⟨w.heap.size + 2, 1, none⟩ = some (.bool false) ∧ W.frozen? ⟨w.heap.size + 2, 0, none⟩ = false ∧ W.frozen? ⟨w.heap.size + 2, 1, none⟩ = false))
  have HKT := hide (fun (W : World) (h : Below W2.heap.size W2 W) (x y : Value) => (⟨(((HX2.out.below h HX2.out.lt).setv (show w.heap.size ≠ w.heap.size + 2 by omega) 0 x).setv (show w.heap.size ≠ w.heap.size + 2 by omega) 1 y).cell 0, (((HX2.out.below h HX2.out.lt).setv (show w.heap.size ≠ w.heap.size + 2 by omega) 0 x).setv (show w.heap.size ≠ w.heap.size + 2 by omega) 1 y).cell 1, (((HY2.out.below h HY2.out.lt).setv (show w.heap.size + 1 ≠ w.heap.size + 2 by omega) 0 x).setv (show w.heap.size + 1 ≠ w.heap.size + 2 by omega) 1 y).cell 0, (((HY2.out.below h HY2.out.lt).setv (show w.heap.size + 1 ≠ w.heap.size + 2 by omega) 0 x).setv (show w.heap.size + 1 ≠ w.heap.size + 2 by omega) 1 y).cell 1⟩ : ((W.setCell ⟨w.heap.size + 2, 0, none⟩ x).setCell ⟨w.heap.size + 2, 1, none⟩ y).cell? ⟨w.heap.size, 0, none⟩ = some (.slice A' m c') ∧ ((W.setCell ⟨w.heap.size + 2, 0, none⟩ x).setCell ⟨w.heap.size + 2, 1, none⟩ y).cell? ⟨w.heap.size, 1, none⟩ = some (.bool t) ∧ ((W.setCell ⟨w.heap.size + 2, 0, none⟩ x).setCell ⟨w.heap.size + 2, 1, none⟩ y).cell? ⟨w.heap.size + 1, 0, none⟩ = some (.slice A n c) ∧ ((W.setCell ⟨w.heap.size + 2, 0, none⟩ x).setCell ⟨w.heap.size + 2, 1, none⟩ y).cell? ⟨w.heap.size + 1, 1, none⟩ = some (.bool s)))
  have HC := hide (fun (W : World) (h : Below W2.heap.size W2 W) => impl_subtractLimbs W B (by have := h.size; omega) A' m c' ys (R12.below (h.mono (by omega))) A n c xs (R02.below (h.mono (by omega))) HCY.out HCX.out (by omega) HLE.out)
  clear R02 R12
  go_wp2_with fail
  rw [← hW2]
  clear hW2
  try clear x0 x1 y0 y1 fx0 fx1 fy0 fy1
  have gx0 := HX2.out.cell 0
  have gx1 := HX2.out.cell 1
  have gy0 := HY2.out.cell 0
  have gy1 := HY2.out.cell 1
  simp only [List.getElem?_toArray, List.getElem?_cons_zero, List.getElem?_cons_succ] at gx0 gx1 gy0 gy1
  go_wp2_with fail
  go_region_held3 (fun w' => w'.cell? ⟨w.heap.size, 0, none⟩ = some (.slice A' m c') ∧ w'.cell? ⟨w.heap.size, 1, none⟩ = some (.bool t) ∧ w'.cell? ⟨w.heap.size + 1, 0, none⟩ = some (.slice A n c) ∧ w'.cell? ⟨w.heap.size + 1, 1, none⟩ = some (.bool s))
      (first | (with_reducible exact HKT.out _ HS1.out _ _) | (with_reducible exact HKS.out _ HS1.out) | (with_reducible exact HKS.out _ HS0.out))
      (first
        | (go_at_call 62; refine (HC.out _ HS0.out).mono ?_; rintro e w3 ⟨v1, rfl, o1, hb1⟩; obtain ⟨A1, c1, rfl⟩ := o1.form; have HS1 := hide (below_then HS0.out hb1); obtain ⟨t0, t1, z0, z1⟩ := HKR.out _ HS1.out))
  have HO := hide (ret_bigS (x := .bool t) (HR2.out.below HS1.out HR2.out.lt) (o1) (below_then HB2.out HS1.out) (show w.heap.size ≤ w.heap.size + 2 by omega) (by show w.heap.size + 2 < W2.heap.size; omega) (Nat.le_refl _))
  clear o1 hb1 t0 t1 z0 z1
  go_wp2_with fail
  refine bodyPost_ret (results_cell_row rfl _ _ (w.heap.size + 2) _ #[.slice A1 (limbs (val ys - val xs).toNat).length c1, .bool t] (0, 0) _ rfl HO.out.1 Try.underlying68 rfl Try.sizeSigned) rfl ?_
  exact ⟨_, _, rfl, HP.out.1, by rw [HP.out.2]; exact HO.out.2.1, HO.out.2.2⟩
end Go.Proofs.Ytdcceppednngjab

/-
  The program's big integers: contracts (6): Add.
-/




namespace Go.Proofs.Ytdcceppednngjab
open Go.RowKit
set_option linter.unusedVariables false

theorem impl_plus (w : World) (B : Nat) (hB : B ≤ w.heap.size) (s : Bool) (A : Option Addr) (n c : Nat) (xs : List Int) (Rx : RdI w B A n xs) (hx : Canon xs) (lx : n ≤ 900) (t : Bool) (A' : Option Addr) (m c' : Nat) (ys : List Int) (Ry : RdI w B A' m ys) (hy : Canon ys) (ly : m ≤ 900) :
    Calls Try.prog 42 #[.agg #[.slice A n c, .bool s], .agg #[.slice A' m c', .bool t]] w fun e w' => PlusR w w' e (zv s xs + zv t ys) := by
  by_cases h : s = t
  · subst h; exact impl_plus_same w B hB s A n c xs Rx hx lx A' m c' ys Ry hy ly
  · have h1 : (s == t) = false := by simpa using h
    by_cases hc : val xs < val ys
    · exact impl_plus_lt w B hB s t h1 (by cases s <;> cases t <;> simp_all) A n c xs Rx hx lx A' m c' ys Ry hy ly hc
    · exact impl_plus_ge w B hB s t h1 (by cases s <;> cases t <;> simp_all) A n c xs Rx hx lx A' m c' ys Ry hy ly (by omega)

set_option maxHeartbeats 400000 in
theorem impl_signedOf_w (w : World) (s : Bool) (A : Option Addr) (n c : Nat) :
    Calls Try.prog 36 #[.agg #[.bool s, .slice A n c]] w fun e w' => e = .returned (.agg #[.slice A n c, .bool s]) ∧ w' = (w.alloc (.cells #[.bool s, .slice A n c] 30)).alloc (.cells #[.slice A n c, .bool s] 68) := by
  go_enter Try.func36, Try.ntmps36
  go_wp2_with fail
  refine bodyPost_ret (results_cell_row rfl _ _ (w.heap.size + 1) _ #[.slice A n c, .bool s] (0, 0) _ rfl (heap_last (alloc_size _ _).symm) Try.underlying68 rfl Try.sizeSigned) rfl ?_
  exact ⟨rfl, rfl⟩

theorem addZ_ok {s t : Bool} {xs ys : List Int} (h : bigB s xs = true) (k : bigB t ys = true) : addZ s xs t ys = capZ (zv s xs + zv t ys) := by rw [addZ, h, k]; rfl
theorem addZ_no {s t : Bool} {xs ys : List Int} (h : bigB s xs = false ∨ bigB t ys = false) : addZ s xs t ys = noZ := by rw [addZ, if_neg]; rcases h with h | h <;> simp [h]
theorem mulZ_ok {s t : Bool} {xs ys : List Int} (h : bigB s xs = true) (k : bigB t ys = true) : mulZ s xs t ys = capZ (zv s xs * zv t ys) := by rw [mulZ, h, k]; rfl
theorem mulZ_no {s t : Bool} {xs ys : List Int} (h : bigB s xs = false ∨ bigB t ys = false) : mulZ s xs t ys = noZ := by rw [mulZ, if_neg]; rcases h with h | h <;> simp [h]
theorem cmpZ_ok {s t : Bool} {xs ys : List Int} (h : bigB s xs = true) (k : bigB t ys = true) : cmpZ s xs t ys = cmpV (zv s xs) (zv t ys) := by rw [cmpZ, h, k]; rfl
theorem cmpZ_no {s t : Bool} {xs ys : List Int} (h : bigB s xs = false ∨ bigB t ys = false) : cmpZ s xs t ys = 0 := by rw [cmpZ, if_neg]; rcases h with h | h <;> simp [h]
theorem times_sgn {s t : Bool} {xs ys : List Int} (hx : Canon xs) (hy : Canon ys) : SgnOk (s != t) (zv s xs * zv t ys) ∧ limbs (zv s xs * zv t ys).natAbs = limbs (val xs * val ys).toNat := by
  have h1 := val_nn hx
  have h2 := val_nn hy
  have h3 := Int.mul_nonneg h1 h2
  have e : zv s xs * zv t ys = if s != t then -(val xs * val ys) else val xs * val ys := by
    unfold zv
    cases s <;> cases t <;> simp [Int.mul_neg, Int.neg_mul]
  rw [e]
  unfold SgnOk
  generalize val xs * val ys = p at *
  cases (s != t)
  · exact ⟨fun _ => (decide_eq_false (by simp; omega)).symm, by simp; congr 1; omega⟩
  · exact ⟨fun h => (decide_eq_true (by simp at h ⊢; omega)).symm, by simp; congr 1; omega⟩
set_option maxHeartbeats 1600000 in
theorem impl_times (w : World) (B : Nat) (hB : B ≤ w.heap.size) (s : Bool) (A : Option Addr) (n c : Nat) (xs : List Int) (Rx : RdI w B A n xs) (hx : Canon xs) (lx : n ≤ 900) (t : Bool) (A' : Option Addr) (m c' : Nat) (ys : List Int) (Ry : RdI w B A' m ys) (hy : Canon ys) (ly : m ≤ 900) :
    Calls Try.prog 38 #[.agg #[.slice A n c, .bool s], .agg #[.slice A' m c', .bool t]] w fun e w' => PlusR w w' e (zv s xs * zv t ys) := by
  obtain ⟨W0, hW0⟩ : ∃ W0, W0 = ((w.alloc (.cells #[.slice A n c, .bool s] 68)).alloc (.cells #[.slice A' m c', .bool t] 68)).alloc (.cells #[.slice none 0 0, .bool false] 68) := ⟨_, rfl⟩
  have hb0 : Below w.heap.size w W0 := by rw [hW0]; exact below_alloc (below_alloc (below_new _ _) _) _
  have kx : Box W0 w.heap.size 68 #[.slice A n c, .bool s] := by rw [hW0]; exact ((Box.last _ _ _ rfl).alloc _).alloc _
  have ky : Box W0 (w.heap.size + 1) 68 #[.slice A' m c', .bool t] := by rw [hW0]; exact (Box.last _ _ _ (alloc_size _ _).symm).alloc _
  have kr : Box W0 (w.heap.size + 2) 68 #[.slice none 0 0, .bool false] := by rw [hW0]; exact Box.last _ _ _ (by rw [alloc_size, alloc_size])
  have hs0 : W0.heap.size = w.heap.size + 3 := by rw [hW0, alloc_size, alloc_size, alloc_size]
  have R0 := Rx.below (hb0.mono hB)
  have R1 := Ry.below (hb0.mono hB)
  have x0 := kx.cell 0
  have x1 := kx.cell 1
  have y0 := ky.cell 0
  have y1 := ky.cell 1
  simp only [List.getElem?_toArray, List.getElem?_cons_zero, List.getElem?_cons_succ] at x0 x1 y0 y1
  have HB0 := hide hb0
  have HX := hide kx
  have HY := hide ky
  have HR := hide kr
  have HS0 : Hid (Below W0.heap.size W0 W0.drew) := (Below.refl _ _).drew
  have HKS := hide (fun (W : World) (h : Below W0.heap.size W0 W) => (⟨(HX.out.below h HX.out.lt).cell 0, (HX.out.below h HX.out.lt).cell 1, (HY.out.below h HY.out.lt).cell 0, (HY.out.below h HY.out.lt).cell 1⟩ : W.cell? ⟨w.heap.size, 0, none⟩ = some (.slice A n c) ∧ W.cell? ⟨w.heap.size, 1, none⟩ = some (.bool s) ∧ W.cell? ⟨w.heap.size + 1, 0, none⟩ = some (.slice A' m c') ∧ W.cell? ⟨w.heap.size + 1, 1, none⟩ = some (.bool t)))
  have HKR := hide (fun (W : World) (h : Below W0.heap.size W0 W) => (⟨(HR.out.below h HR.out.lt).cell 0, (HR.out.below h HR.out.lt).cell 1, (HR.out.below h HR.out.lt).frozen 0, (HR.out.below h HR.out.lt).frozen 1⟩ : W.cell? ⟨w.heap.size + 2, 0, none⟩ = some (.slice none 0 0) ∧ W.cell? ⟨w.heap.size + 2, 1, none⟩ = some (.bool false) ∧ W.frozen? ⟨w.heap.size + 2, 0, none⟩ = false ∧ W.frozen? ⟨w.heap.size + 2, 1, none⟩ = false))
  have HKT := hide (fun (W : World) (h : Below W0.heap.size W0 W) (x y : Value) => (⟨(((HX.out.below h HX.out.lt).setv (show w.heap.size ≠ w.heap.size + 2 by omega) 0 x).setv (show w.heap.size ≠ w.heap.size + 2 by omega) 1 y).cell 0, (((HX.out.below h HX.out.lt).setv (show w.heap.size ≠ w.heap.size + 2 by omega) 0 x).setv (show w.heap.size ≠ w.heap.size + 2 by omega) 1 y).cell 1, (((HY.out.below h HY.out.lt).setv (show w.heap.size + 1 ≠ w.heap.size + 2 by omega) 0 x).setv (show w.heap.size + 1 ≠ w.heap.size + 2 by omega) 1 y).cell 0, (((HY.out.below h HY.out.lt).setv (show w.heap.size + 1 ≠ w.heap.size + 2 by omega) 0 x).setv (show w.heap.size + 1 ≠ w.heap.size + 2 by omega) 1 y).cell 1⟩ : ((W.setCell ⟨w.heap.size + 2, 0, none⟩ x).setCell ⟨w.heap.size + 2, 1, none⟩ y).cell? ⟨w.heap.size, 0, none⟩ = some (.slice A n c) ∧ ((W.setCell ⟨w.heap.size + 2, 0, none⟩ x).setCell ⟨w.heap.size + 2, 1, none⟩ y).cell? ⟨w.heap.size, 1, none⟩ = some (.bool s) ∧ ((W.setCell ⟨w.heap.size + 2, 0, none⟩ x).setCell ⟨w.heap.size + 2, 1, none⟩ y).cell? ⟨w.heap.size + 1, 0, none⟩ = some (.slice A' m c') ∧ ((W.setCell ⟨w.heap.size + 2, 0, none⟩ x).setCell ⟨w.heap.size + 2, 1, none⟩ y).cell? ⟨w.heap.size + 1, 1, none⟩ = some (.bool t)))
  have HC := hide (fun (W : World) (h : Below W0.heap.size W0 W) => impl_multiplyLimbs W B (by have := h.size; omega) A n c xs (R0.below (h.mono (by omega))) A' m c' ys (R1.below (h.mono (by omega))) hx hy (by omega) (by omega))
  have HP := hide (times_sgn (s := s) (t := t) hx hy)
  clear hb0 kx ky kr R0 R1 Rx Ry hx hy
  go_enter Try.func38, Try.ntmps38
  go_wp2_with fail
  rw [← hW0]
  clear hW0
  go_wp2_with fail
  go_region_held3 (fun w' => w'.cell? ⟨w.heap.size, 0, none⟩ = some (.slice A n c) ∧ w'.cell? ⟨w.heap.size, 1, none⟩ = some (.bool s) ∧ w'.cell? ⟨w.heap.size + 1, 0, none⟩ = some (.slice A' m c') ∧ w'.cell? ⟨w.heap.size + 1, 1, none⟩ = some (.bool t))
      (first | (with_reducible exact HKT.out _ HS1.out _ _) | (with_reducible exact HKS.out _ HS1.out) | (with_reducible exact HKS.out _ HS0.out))
      (first
        | (go_at_call 45; refine (HC.out _ HS0.out).mono ?_; rintro e w1 ⟨v1, rfl, o1, hb1⟩; obtain ⟨A1, c1, rfl⟩ := o1.form; have HS1 := hide (below_then HS0.out hb1); obtain ⟨t0, t1, z0, z1⟩ := HKR.out _ HS1.out))
  have HO := hide (ret_bigS (x := .bool (s != t)) (HR.out.below HS1.out HR.out.lt) (o1) (below_then HB0.out HS1.out) (show w.heap.size ≤ w.heap.size + 2 by omega) (by show w.heap.size + 2 < W0.heap.size; omega) (Nat.le_refl _))
  clear o1 hb1 t0 t1 z0 z1
  go_wp2_with fail
  refine bodyPost_ret (results_cell_row rfl _ _ (w.heap.size + 2) _ #[.slice A1 (limbs (val xs * val ys).toNat).length c1, .bool (s != t)] (0, 0) _ rfl HO.out.1 Try.underlying68 rfl Try.sizeSigned) rfl ?_
  exact ⟨_, _, rfl, HP.out.1, by rw [HP.out.2]; exact HO.out.2.1, HO.out.2.2⟩
set_option maxHeartbeats 3200000 in
theorem impl_BigIntAdd (w : World) (B : Nat) (hB : B ≤ w.heap.size) (s : Bool) (A : Option Addr) (n c : Nat) (xs : List Int) (Rx : RdI w B A n xs) (t : Bool) (A' : Option Addr) (m c' : Nat) (ys : List Int) (Ry : RdI w B A' m ys) :
    Calls Try.prog 21 #[.agg #[.bool s, .slice A n c], .agg #[.bool t, .slice A' m c']] w fun e w' => ∃ v, e = .returned (.agg #[.bool (addZ s xs t ys).1, v]) ∧ Own w' w.heap.size w'.heap.size 3 v (addZ s xs t ys).2.length (iv (addZ s xs t ys).2) ∧ Below w.heap.size w w' := by
  obtain ⟨W0, hW0⟩ : ∃ W0, W0 = ((w.alloc (.cells #[.bool s, .slice A n c] 30)).alloc (.cells #[.bool t, .slice A' m c'] 30)).alloc (.cells #[.bool false, .slice none 0 0] 30) := ⟨_, rfl⟩
  have hb0 : Below w.heap.size w W0 := by rw [hW0]; exact below_alloc (below_alloc (below_new _ _) _) _
  have kx : Box W0 w.heap.size 30 #[.bool s, .slice A n c] := by rw [hW0]; exact ((Box.last _ _ _ rfl).alloc _).alloc _
  have ky : Box W0 (w.heap.size + 1) 30 #[.bool t, .slice A' m c'] := by rw [hW0]; exact (Box.last _ _ _ (alloc_size _ _).symm).alloc _
  have kr : Box W0 (w.heap.size + 2) 30 #[.bool false, .slice none 0 0] := by rw [hW0]; exact Box.last _ _ _ (by rw [alloc_size, alloc_size])
  have hs0 : W0.heap.size = w.heap.size + 3 := by rw [hW0, alloc_size, alloc_size, alloc_size]
  have x0 := kx.cell 0
  have x1 := kx.cell 1
  have y0 := ky.cell 0
  have y1 := ky.cell 1
  simp only [List.getElem?_toArray, List.getElem?_cons_zero, List.getElem?_cons_succ] at x0 x1 y0 y1
  have HX := hide kx
  have HY := hide ky
  have HKS := hide (fun (W : World) (h : Below W0.heap.size W0 W) => (⟨(HX.out.below h HX.out.lt).cell 0, (HX.out.below h HX.out.lt).cell 1, (HY.out.below h HY.out.lt).cell 0, (HY.out.below h HY.out.lt).cell 1⟩ : W.cell? ⟨w.heap.size, 0, none⟩ = some (.bool s) ∧ W.cell? ⟨w.heap.size, 1, none⟩ = some (.slice A n c) ∧ W.cell? ⟨w.heap.size + 1, 0, none⟩ = some (.bool t) ∧ W.cell? ⟨w.heap.size + 1, 1, none⟩ = some (.slice A' m c')))
  have HC1 := hide (fun (W : World) => impl_signedOf_w W s A n c)
  have HC2 := hide (fun (W : World) => impl_signedOf_w W t A' m c')
  have HRX := hide Rx
  have HRY := hide Ry
  have HKR := hide kr
  clear kr
  have HB0 := hide hb0
  have HNO := hide (addZ_no (s := s) (t := t) (xs := xs) (ys := ys))
  have HOK := hide (addZ_ok (s := s) (t := t) (xs := xs) (ys := ys))
  generalize addZ s xs t ys = Z at HNO HOK ⊢
  clear kx ky hb0 Rx Ry
  go_enter Try.func21, Try.ntmps21
  go_upto_region 1 with fail
  rw [← hW0]
  clear hW0
  go_cut [5, 6] from 7 to 23 (fun s5 s6 wx => ∃ g h : Nat, s5 = .pointer (some ⟨g, 0, none⟩) ∧ s6 = .pointer (some ⟨h, 0, none⟩) ∧ Box wx g 68 #[.slice A n c, .bool s] ∧ Box wx h 68 #[.slice A' m c', .bool t] ∧ Below W0.heap.size W0 wx ∧ W0.heap.size ≤ g ∧ W0.heap.size ≤ h)
  case first =>
    go_region_held3 (fun w' => w'.cell? ⟨w.heap.size, 0, none⟩ = some (.bool s) ∧ w'.cell? ⟨w.heap.size, 1, none⟩ = some (.slice A n c) ∧ w'.cell? ⟨w.heap.size + 1, 0, none⟩ = some (.bool t) ∧ w'.cell? ⟨w.heap.size + 1, 1, none⟩ = some (.slice A' m c'))
      (first | (refine HKS.out _ ?_; repeat (first | (with_reducible exact Below.refl _ _) | (with_reducible refine Below.drew ?_) | (with_reducible refine below_alloc ?_ _))))
      (first
        | (go_at_call_has 36 A; refine (HC1.out _).mono ?_; rintro e w1 ⟨rfl, rfl⟩)
        | (go_at_call_has 36 A'; refine (HC2.out _).mono ?_; rintro e w1 ⟨rfl, rfl⟩))
    all_goals
      go_wp2_with fail
      go_meet
      case rel =>
        refine ⟨_, _, rfl, rfl, ?_, ?_, ?_, by omega, by omega⟩
        · refine Box.drew ?_
          repeat (first | (with_reducible exact Box.last _ _ _ (by (try simp only [alloc_size]); omega)) | (with_reducible refine Box.alloc ?_ _))
        · refine Box.drew ?_
          repeat (first | (with_reducible exact Box.last _ _ _ (by (try simp only [alloc_size]); omega)) | (with_reducible refine Box.alloc ?_ _))
        · repeat (first | (with_reducible exact Below.refl _ _) | (with_reducible refine Below.drew ?_) | (with_reducible refine below_alloc ?_ _))
  case rest =>
    obtain ⟨g, h, rfl, rfl, kg, kh, hb1, hgg, hgh⟩ := hcut
    clear x0 x1 y0 y1 HKS HC1 HC2 HX HY
    have hs1 := hb1.size
    have hb1' := below_then HB0.out hb1
    have g0 := kg.cell 0
    have g1 := kg.cell 1
    have h0 := kh.cell 0
    have h1 := kh.cell 1
    simp only [List.getElem?_toArray, List.getElem?_cons_zero, List.getElem?_cons_succ] at g0 g1 h0 h1
    have kr1 := HKR.out.below hb1 HKR.out.lt
    have R1 := HRX.out.below (hb1'.mono hB)
    go_wp2_with fail
    refine (impl_isValid wc B (by omega) s A n c xs R1).mono ?_
    rintro e w2 ⟨rfl, hb2⟩
    have kg2 := kg.below hb2 kg.lt
    have kh2 := kh.below hb2 kh.lt
    have kr2 := kr1.below hb2 kr1.lt
    clear kr1
    have z0 := kr2.frozen 0
    have z1 := kr2.frozen 1
    have t0 := kr2.cell 0
    have t1 := kr2.cell 1
    simp only [List.getElem?_toArray, List.getElem?_cons_zero, List.getElem?_cons_succ] at t0 t1
    have hs2 := hb2.size
    have hb2' := below_then hb1' hb2
    have R2x := HRX.out.below (hb2'.mono hB)
    have R2 := HRY.out.below (hb2'.mono hB)
    clear g0 g1 h0 h1 kg kh hb1 hb1' hb2 R1
    have g0 := kg2.cell 0
    have g1 := kg2.cell 1
    have h0 := kh2.cell 0
    have h1 := kh2.cell 1
    simp only [List.getElem?_toArray, List.getElem?_cons_zero, List.getElem?_cons_succ] at g0 g1 h0 h1
    by_cases hv : bigB s xs = true
    · rw [hv]
      go_wp2_with fail
      refine (impl_isValid w2 B (by omega) t A' m c' ys R2).mono ?_
      rintro e w3 ⟨rfl, hb3⟩
      have kg3 := kg2.below hb3 kg2.lt
      have kh3 := kh2.below hb3 kh2.lt
      have kr3 := kr2.below hb3 kr2.lt
      clear kr2 z0 z1 t0 t1
      have z0 := kr3.frozen 0
      have z1 := kr3.frozen 1
      have t0 := kr3.cell 0
      have t1 := kr3.cell 1
      simp only [List.getElem?_toArray, List.getElem?_cons_zero, List.getElem?_cons_succ] at t0 t1
      have hs3 := hb3.size
      have hb3' := below_then hb2' hb3
      have R3x := HRX.out.below (hb3'.mono hB)
      have R3y := HRY.out.below (hb3'.mono hB)
      clear g0 g1 h0 h1 kg2 kh2 hb2' hb3 R2x R2
      have g0 := kg3.cell 0
      have g1 := kg3.cell 1
      have h0 := kh3.cell 0
      have h1 := kh3.cell 1
      simp only [List.getElem?_toArray, List.getElem?_cons_zero, List.getElem?_cons_succ] at g0 g1 h0 h1
      by_cases hu : bigB t ys = true
      · have hz := HOK.out hv hu
        clear HOK HNO
        have hlx := ((natB_iff xs).1 (bigB_nat hv)).2
        have hly := ((natB_iff ys).1 (bigB_nat hu)).2
        have HOPC := hide (impl_plus w3 B (by omega) s A n c xs R3x ((natB_iff xs).1 (bigB_nat hv)).1 (by have := R3x.1; omega) t A' m c' ys R3y ((natB_iff ys).1 (bigB_nat hu)).1 (by have := R3y.1; omega))
        rw [hu]
        go_wp2_with fail
        have hz1 := hz
        generalize (zv s xs + zv t ys) = z at hz1 HOPC
        refine HOPC.out.mono ?_
        rintro e w4 ⟨v4, sg, rfl, hsg, o4, hb4⟩
        obtain ⟨A4, c4, rfl⟩ := o4.form
        have kr4 := kr3.below hb4 kr3.lt
        have hb4' := below_then hb3' hb4
        have HBZ := hide (impl_bigIntZ w4 w3.heap.size w4.heap.size sg A4 _ c4 z hsg o4 (Nat.le_refl _))
        rw [← hz1] at HBZ
        clear kg3 kh3 kr3 z0 z1 t0 t1 g0 g1 h0 h1 R3x R3y hv hu hb3' HRX HRY hz hz1 hsg o4
        generalize limbs z.natAbs = L at *
        go_wp2_with fail
        refine HBZ.out.mono ?_
        rintro e w5 ⟨v5, rfl, o5, hb5⟩
        obtain ⟨A5, c5, rfl⟩ := o5.form
        have kr5 := kr4.below hb5 kr4.lt
        have hb5' := below_then hb4' hb5
        have z0 := kr5.frozen 0
        have z1 := kr5.frozen 1
        have t0 := kr5.cell 0
        have t1 := kr5.cell 1
        simp only [List.getElem?_toArray, List.getElem?_cons_zero, List.getElem?_cons_succ] at t0 t1
        have HO := hide (ret_big (x := .bool Z.1) kr5 o5 hb5' (show w.heap.size ≤ w.heap.size + 2 by omega) (by omega) (by have := hb4.size; have := hb5.size; omega))
        clear kr4 kr5 o5 hb4 hb4' hb5 hb5' HBZ
        go_wp2_with fail
        refine bodyPost_ret (results_cell_row rfl _ _ (w.heap.size + 2) _ #[.bool Z.1, .slice A5 Z.2.length c5] (0, 0) _ rfl HO.out.1 Try.underlying30 rfl Try.sizeBig) rfl ?_
        exact ⟨_, rfl, HO.out.2.1, HO.out.2.2⟩
      · have hu : bigB t ys = false := by simpa using hu
        have hz := HNO.out (.inr hu)
        subst hz
        rw [hu]
        have HO := hide (ret_big0 (x := .bool false) (v := .slice none 0 0) kr3 hb3' (show w.heap.size ≤ w.heap.size + 2 by omega))
        clear kr3 hb3'
        go_wp2_with fail
        refine bodyPost_ret (results_cell_row rfl _ _ (w.heap.size + 2) _ #[.bool false, .slice none 0 0] (0, 0) _ rfl HO.out.1 Try.underlying30 rfl Try.sizeBig) rfl ?_
        exact ⟨_, rfl, Own.nil _ _ _ _, HO.out.2⟩
    · have hv : bigB s xs = false := by simpa using hv
      have hz := HNO.out (.inl hv)
      subst hz
      rw [hv]
      have HO := hide (ret_big0 (x := .bool false) (v := .slice none 0 0) kr2 hb2' (show w.heap.size ≤ w.heap.size + 2 by omega))
      clear kr2 hb2'
      go_wp2_with fail
      refine bodyPost_ret (results_cell_row rfl _ _ (w.heap.size + 2) _ #[.bool false, .slice none 0 0] (0, 0) _ rfl HO.out.1 Try.underlying30 rfl Try.sizeBig) rfl ?_
      exact ⟨_, rfl, Own.nil _ _ _ _, HO.out.2⟩
end Go.Proofs.Ytdcceppednngjab

/-
  The program's big integers: contracts (8): Mul.
-/


namespace Go.Proofs.Ytdcceppednngjab
open Go.RowKit
set_option linter.unusedVariables false

set_option maxHeartbeats 3200000 in
theorem impl_BigIntMul (w : World) (B : Nat) (hB : B ≤ w.heap.size) (s : Bool) (A : Option Addr) (n c : Nat) (xs : List Int) (Rx : RdI w B A n xs) (t : Bool) (A' : Option Addr) (m c' : Nat) (ys : List Int) (Ry : RdI w B A' m ys) :
    Calls Try.prog 18 #[.agg #[.bool s, .slice A n c], .agg #[.bool t, .slice A' m c']] w fun e w' => ∃ v, e = .returned (.agg #[.bool (mulZ s xs t ys).1, v]) ∧ Own w' w.heap.size w'.heap.size 3 v (mulZ s xs t ys).2.length (iv (mulZ s xs t ys).2) ∧ Below w.heap.size w w' := by
  obtain ⟨W0, hW0⟩ : ∃ W0, W0 = ((w.alloc (.cells #[.bool s, .slice A n c] 30)).alloc (.cells #[.bool t, .slice A' m c'] 30)).alloc (.cells #[.bool false, .slice none 0 0] 30) := ⟨_, rfl⟩
  have hb0 : Below w.heap.size w W0 := by rw [hW0]; exact below_alloc (below_alloc (below_new _ _) _) _
  have kx : Box W0 w.heap.size 30 #[.bool s, .slice A n c] := by rw [hW0]; exact ((Box.last _ _ _ rfl).alloc _).alloc _
  have ky : Box W0 (w.heap.size + 1) 30 #[.bool t, .slice A' m c'] := by rw [hW0]; exact (Box.last _ _ _ (alloc_size _ _).symm).alloc _
  have kr : Box W0 (w.heap.size + 2) 30 #[.bool false, .slice none 0 0] := by rw [hW0]; exact Box.last _ _ _ (by rw [alloc_size, alloc_size])
  have hs0 : W0.heap.size = w.heap.size + 3 := by rw [hW0, alloc_size, alloc_size, alloc_size]
  have x0 := kx.cell 0
  have x1 := kx.cell 1
  have y0 := ky.cell 0
  have y1 := ky.cell 1
  simp only [List.getElem?_toArray, List.getElem?_cons_zero, List.getElem?_cons_succ] at x0 x1 y0 y1
  have HX := hide kx
  have HY := hide ky
  have HKS := hide (fun (W : World) (h : Below W0.heap.size W0 W) => (⟨(HX.out.below h HX.out.lt).cell 0, (HX.out.below h HX.out.lt).cell 1, (HY.out.below h HY.out.lt).cell 0, (HY.out.below h HY.out.lt).cell 1⟩ : W.cell? ⟨w.heap.size, 0, none⟩ = some (.bool s) ∧ W.cell? ⟨w.heap.size, 1, none⟩ = some (.slice A n c) ∧ W.cell? ⟨w.heap.size + 1, 0, none⟩ = some (.bool t) ∧ W.cell? ⟨w.heap.size + 1, 1, none⟩ = some (.slice A' m c')))
  have HC1 := hide (fun (W : World) => impl_signedOf_w W s A n c)
  have HC2 := hide (fun (W : World) => impl_signedOf_w W t A' m c')
  have HRX := hide Rx
  have HRY := hide Ry
  have HKR := hide kr
  clear kr
  have HB0 := hide hb0
  have HNO := hide (mulZ_no (s := s) (t := t) (xs := xs) (ys := ys))
  have HOK := hide (mulZ_ok (s := s) (t := t) (xs := xs) (ys := ys))
  generalize mulZ s xs t ys = Z at HNO HOK ⊢
  clear kx ky hb0 Rx Ry
  go_enter Try.func18, Try.ntmps18
  go_upto_region 1 with fail
  rw [← hW0]
  clear hW0
  go_cut [5, 6] from 7 to 23 (fun s5 s6 wx => ∃ g h : Nat, s5 = .pointer (some ⟨g, 0, none⟩) ∧ s6 = .pointer (some ⟨h, 0, none⟩) ∧ Box wx g 68 #[.slice A n c, .bool s] ∧ Box wx h 68 #[.slice A' m c', .bool t] ∧ Below W0.heap.size W0 wx ∧ W0.heap.size ≤ g ∧ W0.heap.size ≤ h)
  case first =>
    go_region_held3 (fun w' => w'.cell? ⟨w.heap.size, 0, none⟩ = some (.bool s) ∧ w'.cell? ⟨w.heap.size, 1, none⟩ = some (.slice A n c) ∧ w'.cell? ⟨w.heap.size + 1, 0, none⟩ = some (.bool t) ∧ w'.cell? ⟨w.heap.size + 1, 1, none⟩ = some (.slice A' m c'))
      (first | (refine HKS.out _ ?_; repeat (first | (with_reducible exact Below.refl _ _) | (with_reducible refine Below.drew ?_) | (with_reducible refine below_alloc ?_ _))))
      (first
        | (go_at_call_has 36 A; refine (HC1.out _).mono ?_; rintro e w1 ⟨rfl, rfl⟩)
        | (go_at_call_has 36 A'; refine (HC2.out _).mono ?_; rintro e w1 ⟨rfl, rfl⟩))
    all_goals
      go_wp2_with fail
      go_meet
      case rel =>
        refine ⟨_, _, rfl, rfl, ?_, ?_, ?_, by omega, by omega⟩
        · refine Box.drew ?_
          repeat (first | (with_reducible exact Box.last _ _ _ (by (try simp only [alloc_size]); omega)) | (with_reducible refine Box.alloc ?_ _))
        · refine Box.drew ?_
          repeat (first | (with_reducible exact Box.last _ _ _ (by (try simp only [alloc_size]); omega)) | (with_reducible refine Box.alloc ?_ _))
        · repeat (first | (with_reducible exact Below.refl _ _) | (with_reducible refine Below.drew ?_) | (with_reducible refine below_alloc ?_ _))
  case rest =>
    obtain ⟨g, h, rfl, rfl, kg, kh, hb1, hgg, hgh⟩ := hcut
    clear x0 x1 y0 y1 HKS HC1 HC2 HX HY
    have hs1 := hb1.size
    have hb1' := below_then HB0.out hb1
    have g0 := kg.cell 0
    have g1 := kg.cell 1
    have h0 := kh.cell 0
    have h1 := kh.cell 1
    simp only [List.getElem?_toArray, List.getElem?_cons_zero, List.getElem?_cons_succ] at g0 g1 h0 h1
    have kr1 := HKR.out.below hb1 HKR.out.lt
    have R1 := HRX.out.below (hb1'.mono hB)
    go_wp2_with fail
    refine (impl_isValid wc B (by omega) s A n c xs R1).mono ?_
    rintro e w2 ⟨rfl, hb2⟩
    have kg2 := kg.below hb2 kg.lt
    have kh2 := kh.below hb2 kh.lt
    have kr2 := kr1.below hb2 kr1.lt
    clear kr1
    have z0 := kr2.frozen 0
    have z1 := kr2.frozen 1
    have t0 := kr2.cell 0
    have t1 := kr2.cell 1
    simp only [List.getElem?_toArray, List.getElem?_cons_zero, List.getElem?_cons_succ] at t0 t1
    have hs2 := hb2.size
    have hb2' := below_then hb1' hb2
    have R2x := HRX.out.below (hb2'.mono hB)
    have R2 := HRY.out.below (hb2'.mono hB)
    clear g0 g1 h0 h1 kg kh hb1 hb1' hb2 R1
    have g0 := kg2.cell 0
    have g1 := kg2.cell 1
    have h0 := kh2.cell 0
    have h1 := kh2.cell 1
    simp only [List.getElem?_toArray, List.getElem?_cons_zero, List.getElem?_cons_succ] at g0 g1 h0 h1
    by_cases hv : bigB s xs = true
    · rw [hv]
      go_wp2_with fail
      refine (impl_isValid w2 B (by omega) t A' m c' ys R2).mono ?_
      rintro e w3 ⟨rfl, hb3⟩
      have kg3 := kg2.below hb3 kg2.lt
      have kh3 := kh2.below hb3 kh2.lt
      have kr3 := kr2.below hb3 kr2.lt
      clear kr2 z0 z1 t0 t1
      have z0 := kr3.frozen 0
      have z1 := kr3.frozen 1
      have t0 := kr3.cell 0
      have t1 := kr3.cell 1
      simp only [List.getElem?_toArray, List.getElem?_cons_zero, List.getElem?_cons_succ] at t0 t1
      have hs3 := hb3.size
      have hb3' := below_then hb2' hb3
      have R3x := HRX.out.below (hb3'.mono hB)
      have R3y := HRY.out.below (hb3'.mono hB)
      clear g0 g1 h0 h1 kg2 kh2 hb2' hb3 R2x R2
      have g0 := kg3.cell 0
      have g1 := kg3.cell 1
      have h0 := kh3.cell 0
      have h1 := kh3.cell 1
      simp only [List.getElem?_toArray, List.getElem?_cons_zero, List.getElem?_cons_succ] at g0 g1 h0 h1
      by_cases hu : bigB t ys = true
      · have hz := HOK.out hv hu
        clear HOK HNO
        have hlx := ((natB_iff xs).1 (bigB_nat hv)).2
        have hly := ((natB_iff ys).1 (bigB_nat hu)).2
        have HOPC := hide (impl_times w3 B (by omega) s A n c xs R3x ((natB_iff xs).1 (bigB_nat hv)).1 (by have := R3x.1; omega) t A' m c' ys R3y ((natB_iff ys).1 (bigB_nat hu)).1 (by have := R3y.1; omega))
        rw [hu]
        go_wp2_with fail
        have hz1 := hz
        generalize (zv s xs * zv t ys) = z at hz1 HOPC
        refine HOPC.out.mono ?_
        rintro e w4 ⟨v4, sg, rfl, hsg, o4, hb4⟩
        obtain ⟨A4, c4, rfl⟩ := o4.form
        have kr4 := kr3.below hb4 kr3.lt
        have hb4' := below_then hb3' hb4
        have HBZ := hide (impl_bigIntZ w4 w3.heap.size w4.heap.size sg A4 _ c4 z hsg o4 (Nat.le_refl _))
        rw [← hz1] at HBZ
        clear kg3 kh3 kr3 z0 z1 t0 t1 g0 g1 h0 h1 R3x R3y hv hu hb3' HRX HRY hz hz1 hsg o4
        generalize limbs z.natAbs = L at *
        go_wp2_with fail
        refine HBZ.out.mono ?_
        rintro e w5 ⟨v5, rfl, o5, hb5⟩
        obtain ⟨A5, c5, rfl⟩ := o5.form
        have kr5 := kr4.below hb5 kr4.lt
        have hb5' := below_then hb4' hb5
        have z0 := kr5.frozen 0
        have z1 := kr5.frozen 1
        have t0 := kr5.cell 0
        have t1 := kr5.cell 1
        simp only [List.getElem?_toArray, List.getElem?_cons_zero, List.getElem?_cons_succ] at t0 t1
        have HO := hide (ret_big (x := .bool Z.1) kr5 o5 hb5' (show w.heap.size ≤ w.heap.size + 2 by omega) (by omega) (by have := hb4.size; have := hb5.size; omega))
        clear kr4 kr5 o5 hb4 hb4' hb5 hb5' HBZ
        go_wp2_with fail
        refine bodyPost_ret (results_cell_row rfl _ _ (w.heap.size + 2) _ #[.bool Z.1, .slice A5 Z.2.length c5] (0, 0) _ rfl HO.out.1 Try.underlying30 rfl Try.sizeBig) rfl ?_
        exact ⟨_, rfl, HO.out.2.1, HO.out.2.2⟩
      · have hu : bigB t ys = false := by simpa using hu
        have hz := HNO.out (.inr hu)
        subst hz
        rw [hu]
        have HO := hide (ret_big0 (x := .bool false) (v := .slice none 0 0) kr3 hb3' (show w.heap.size ≤ w.heap.size + 2 by omega))
        clear kr3 hb3'
        go_wp2_with fail
        refine bodyPost_ret (results_cell_row rfl _ _ (w.heap.size + 2) _ #[.bool false, .slice none 0 0] (0, 0) _ rfl HO.out.1 Try.underlying30 rfl Try.sizeBig) rfl ?_
        exact ⟨_, rfl, Own.nil _ _ _ _, HO.out.2⟩
    · have hv : bigB s xs = false := by simpa using hv
      have hz := HNO.out (.inl hv)
      subst hz
      rw [hv]
      have HO := hide (ret_big0 (x := .bool false) (v := .slice none 0 0) kr2 hb2' (show w.heap.size ≤ w.heap.size + 2 by omega))
      clear kr2 hb2'
      go_wp2_with fail
      refine bodyPost_ret (results_cell_row rfl _ _ (w.heap.size + 2) _ #[.bool false, .slice none 0 0] (0, 0) _ rfl HO.out.1 Try.underlying30 rfl Try.sizeBig) rfl ?_
      exact ⟨_, rfl, Own.nil _ _ _ _, HO.out.2⟩
end Go.Proofs.Ytdcceppednngjab

/-
  The program's big integers: contracts (9): order, Cmp.
-/

namespace Go.Proofs.Ytdcceppednngjab
open Go.RowKit
set_option linter.unusedVariables false

theorem big_pos {xs : List Int} (h : bigB true xs = true) : 0 < val xs := by
  have hn := bigB_nat h
  have h0 := natB_zero hn
  have hv := natV_val hn
  unfold bigB at h
  simp only [hn, h0, Bool.true_and] at h
  have : natV xs ≠ 0 := by intro e; simp [e] at h
  omega
theorem cmpV_swap (a b : Int) : cmpV (-a) (-b) = cmpV b a := by unfold cmpV; split <;> split <;> (try split) <;> omega
set_option maxHeartbeats 800000 in
theorem impl_order (w : World) (B : Nat) (hB : B ≤ w.heap.size) (s : Bool) (A : Option Addr) (n c : Nat) (xs : List Int) (Rx : RdI w B A n xs) (hx : bigB s xs = true) (t : Bool) (A' : Option Addr) (m c' : Nat) (ys : List Int) (Ry : RdI w B A' m ys) (hy : bigB t ys = true) :
    Calls Try.prog 65 #[.agg #[.slice A n c, .bool s], .agg #[.slice A' m c', .bool t]] w fun e w' => e = .returned (.int .i64 (cmpV (zv s xs) (zv t ys))) ∧ Below w.heap.size w w' := by
  have hb0 : Below w.heap.size w ((w.alloc (.cells #[.slice A n c, .bool s] 68)).alloc (.cells #[.slice A' m c', .bool t] 68)) := below_alloc (below_new _ _) _
  have R0 := Rx.below (hb0.mono hB)
  have R1 := Ry.below (hb0.mono hB)
  have hxc := ((natB_iff xs).1 (bigB_nat hx)).1
  have hyc := ((natB_iff ys).1 (bigB_nat hy)).1
  have hl0 := Rx.2.2.1
  have hl1 := Ry.2.2.1
  have HC1 := hide (impl_compare _ B A A' n m c c' xs ys R0.1 R1.1 R0.2.1 R1.2.1 (by omega) (by omega) hxc hyc)
  have HC2 := hide (impl_compare _ B A' A m n c' c ys xs R1.1 R0.1 R1.2.1 R0.2.1 (by omega) (by omega) hyc hxc)
  have hvx := natV_nonneg (bigB_nat hx)
  have hvy := natV_nonneg (bigB_nat hy)
  cases s
  · cases t
    · have hz : cmpV (zv false xs) (zv false ys) = cmpV (val xs) (val ys) := rfl
      rw [hz]
      clear hz R0 R1 HC2
      go_enter Try.func65, Try.ntmps65
      go_wp2_with fail
      refine HC1.out.mono ?_
      rintro e w1 ⟨rfl, hd⟩
      have hb1 : Below w.heap.size w w1 := by obtain ⟨d, rfl⟩ := hd; exact below_drewN hb0 d
      clear hd
      go_wp2_with fail
      go_ret
      exact ⟨rfl, hb1⟩
    · have hp := big_pos hy
      have hz : cmpV (zv false xs) (zv true ys) = 1 := by
        show cmpV (val xs) (-val ys) = 1
        exact cmpV_gt (by omega)
      rw [hz]
      clear hz R0 R1 HC1 HC2
      go_enter Try.func65, Try.ntmps65
      go_wp2_with fail
      go_ret
      exact ⟨rfl, hb0⟩
  · cases t
    · have hp := big_pos hx
      have hz : cmpV (zv true xs) (zv false ys) = -1 := by
        show cmpV (-val xs) (val ys) = -1
        exact cmpV_lt (by omega)
      rw [hz]
      clear hz R0 R1 HC1 HC2
      go_enter Try.func65, Try.ntmps65
      go_wp2_with fail
      go_ret
      exact ⟨rfl, hb0⟩
    · have hz : cmpV (zv true xs) (zv true ys) = cmpV (val ys) (val xs) := cmpV_swap _ _
      rw [hz]
      clear hz R0 R1 HC1
      go_enter Try.func65, Try.ntmps65
      go_wp2_with fail
      refine HC2.out.mono ?_
      rintro e w1 ⟨rfl, hd⟩
      have hb1 : Below w.heap.size w w1 := by obtain ⟨d, rfl⟩ := hd; exact below_drewN hb0 d
      clear hd
      go_wp2_with fail
      go_ret
      exact ⟨rfl, hb1⟩

set_option maxHeartbeats 3200000 in
theorem impl_BigIntCmp (w : World) (B : Nat) (hB : B ≤ w.heap.size) (s : Bool) (A : Option Addr) (n c : Nat) (xs : List Int) (Rx : RdI w B A n xs) (t : Bool) (A' : Option Addr) (m c' : Nat) (ys : List Int) (Ry : RdI w B A' m ys) :
    Calls Try.prog 48 #[.agg #[.bool s, .slice A n c], .agg #[.bool t, .slice A' m c']] w fun e w' => e = .returned (.int .i64 (cmpZ s xs t ys)) ∧ Below w.heap.size w w' := by
  obtain ⟨W0, hW0⟩ : ∃ W0, W0 = (w.alloc (.cells #[.bool s, .slice A n c] 30)).alloc (.cells #[.bool t, .slice A' m c'] 30) := ⟨_, rfl⟩
  have hb0 : Below w.heap.size w W0 := by rw [hW0]; exact below_alloc (below_new _ _) _
  have kx : Box W0 w.heap.size 30 #[.bool s, .slice A n c] := by rw [hW0]; exact (Box.last _ _ _ rfl).alloc _
  have ky : Box W0 (w.heap.size + 1) 30 #[.bool t, .slice A' m c'] := by rw [hW0]; exact Box.last _ _ _ (alloc_size _ _).symm
  have hs0 : W0.heap.size = w.heap.size + 2 := by rw [hW0, alloc_size, alloc_size]
  have x0 := kx.cell 0
  have x1 := kx.cell 1
  have y0 := ky.cell 0
  have y1 := ky.cell 1
  simp only [List.getElem?_toArray, List.getElem?_cons_zero, List.getElem?_cons_succ] at x0 x1 y0 y1
  have HX := hide kx
  have HY := hide ky
  have HKS := hide (fun (W : World) (h : Below W0.heap.size W0 W) => (⟨(HX.out.below h HX.out.lt).cell 0, (HX.out.below h HX.out.lt).cell 1, (HY.out.below h HY.out.lt).cell 0, (HY.out.below h HY.out.lt).cell 1⟩ : W.cell? ⟨w.heap.size, 0, none⟩ = some (.bool s) ∧ W.cell? ⟨w.heap.size, 1, none⟩ = some (.slice A n c) ∧ W.cell? ⟨w.heap.size + 1, 0, none⟩ = some (.bool t) ∧ W.cell? ⟨w.heap.size + 1, 1, none⟩ = some (.slice A' m c')))
  have HC1 := hide (fun (W : World) => impl_signedOf_w W s A n c)
  have HC2 := hide (fun (W : World) => impl_signedOf_w W t A' m c')
  have HRX := hide Rx
  have HRY := hide Ry
  have HB0 := hide hb0
  have HNO := hide (cmpZ_no (s := s) (t := t) (xs := xs) (ys := ys))
  have HOK := hide (cmpZ_ok (s := s) (t := t) (xs := xs) (ys := ys))
  generalize cmpZ s xs t ys = Z at HNO HOK ⊢
  clear kx ky hb0 Rx Ry
  go_enter Try.func48, Try.ntmps48
  go_upto_region 1 with fail
  rw [← hW0]
  clear hW0
  go_cut [5, 6] from 7 to 21 (fun s5 s6 wx => ∃ g h : Nat, s5 = .pointer (some ⟨g, 0, none⟩) ∧ s6 = .pointer (some ⟨h, 0, none⟩) ∧ Box wx g 68 #[.slice A n c, .bool s] ∧ Box wx h 68 #[.slice A' m c', .bool t] ∧ Below W0.heap.size W0 wx ∧ W0.heap.size ≤ g ∧ W0.heap.size ≤ h)
  case first =>
    go_region_held3 (fun w' => w'.cell? ⟨w.heap.size, 0, none⟩ = some (.bool s) ∧ w'.cell? ⟨w.heap.size, 1, none⟩ = some (.slice A n c) ∧ w'.cell? ⟨w.heap.size + 1, 0, none⟩ = some (.bool t) ∧ w'.cell? ⟨w.heap.size + 1, 1, none⟩ = some (.slice A' m c'))
      (first | (refine HKS.out _ ?_; repeat (first | (with_reducible exact Below.refl _ _) | (with_reducible refine Below.drew ?_) | (with_reducible refine below_alloc ?_ _))))
      (first
        | (go_at_call_has 36 A; refine (HC1.out _).mono ?_; rintro e w1 ⟨rfl, rfl⟩)
        | (go_at_call_has 36 A'; refine (HC2.out _).mono ?_; rintro e w1 ⟨rfl, rfl⟩))
    all_goals
      go_wp2_with fail
      go_meet
      case rel =>
        refine ⟨_, _, rfl, rfl, ?_, ?_, ?_, by omega, by omega⟩
        · refine Box.drew ?_
          repeat (first | (with_reducible exact Box.last _ _ _ (by (try simp only [alloc_size]); omega)) | (with_reducible refine Box.alloc ?_ _))
        · refine Box.drew ?_
          repeat (first | (with_reducible exact Box.last _ _ _ (by (try simp only [alloc_size]); omega)) | (with_reducible refine Box.alloc ?_ _))
        · repeat (first | (with_reducible exact Below.refl _ _) | (with_reducible refine Below.drew ?_) | (with_reducible refine below_alloc ?_ _))
  case rest =>
    obtain ⟨g, h, rfl, rfl, kg, kh, hb1, hgg, hgh⟩ := hcut
    clear x0 x1 y0 y1 HKS HC1 HC2 HX HY
    have hs1 := hb1.size
    have hb1' := below_then HB0.out hb1
    have g0 := kg.cell 0
    have g1 := kg.cell 1
    have h0 := kh.cell 0
    have h1 := kh.cell 1
    simp only [List.getElem?_toArray, List.getElem?_cons_zero, List.getElem?_cons_succ] at g0 g1 h0 h1
    
    have R1 := HRX.out.below (hb1'.mono hB)
    go_wp2_with fail
    refine (impl_isValid wc B (by omega) s A n c xs R1).mono ?_
    rintro e w2 ⟨rfl, hb2⟩
    have kg2 := kg.below hb2 kg.lt
    have kh2 := kh.below hb2 kh.lt
    
    have hs2 := hb2.size
    have hb2' := below_then hb1' hb2
    have R2x := HRX.out.below (hb2'.mono hB)
    have R2 := HRY.out.below (hb2'.mono hB)
    clear g0 g1 h0 h1 kg kh hb1 hb1' hb2 R1
    have g0 := kg2.cell 0
    have g1 := kg2.cell 1
    have h0 := kh2.cell 0
    have h1 := kh2.cell 1
    simp only [List.getElem?_toArray, List.getElem?_cons_zero, List.getElem?_cons_succ] at g0 g1 h0 h1
    by_cases hv : bigB s xs = true
    · rw [hv]
      go_wp2_with fail
      refine (impl_isValid w2 B (by omega) t A' m c' ys R2).mono ?_
      rintro e w3 ⟨rfl, hb3⟩
      have kg3 := kg2.below hb3 kg2.lt
      have kh3 := kh2.below hb3 kh2.lt
      
      have hs3 := hb3.size
      have hb3' := below_then hb2' hb3
      have R3x := HRX.out.below (hb3'.mono hB)
      have R3y := HRY.out.below (hb3'.mono hB)
      clear g0 g1 h0 h1 kg2 kh2 hb2' hb3 R2x R2
      have g0 := kg3.cell 0
      have g1 := kg3.cell 1
      have h0 := kh3.cell 0
      have h1 := kh3.cell 1
      simp only [List.getElem?_toArray, List.getElem?_cons_zero, List.getElem?_cons_succ] at g0 g1 h0 h1
      by_cases hu : bigB t ys = true
      · have hz := HOK.out hv hu
        clear HOK HNO
        have hlx := ((natB_iff xs).1 (bigB_nat hv)).2
        have hly := ((natB_iff ys).1 (bigB_nat hu)).2
        rw [hu]
        go_wp2_with fail
        refine (impl_order w3 B (by omega) s A n c xs R3x hv t A' m c' ys R3y hu).mono ?_
        rintro e w4 ⟨rfl, hb4⟩
        have hb4' := below_then hb3' hb4
        go_wp2_with fail
        go_ret
        exact ⟨by subst hz; rfl, hb4'⟩
      · have hu : bigB t ys = false := by simpa using hu
        have hz := HNO.out (.inr hu)
        subst hz
        rw [hu]
        go_wp2_with fail
        go_ret
        exact ⟨rfl, hb3'⟩
    · have hv : bigB s xs = false := by simpa using hv
      have hz := HNO.out (.inl hv)
      subst hz
      rw [hv]
      go_wp2_with fail
      go_ret
      exact ⟨rfl, hb2'⟩
end Go.Proofs.Ytdcceppednngjab
