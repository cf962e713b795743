/-
  The reference's big integers: contracts (3): l03Add.
-/
import Derived.Test.YtdcceppednngjaaGreatBigR2
import Derived.Test.YtdcceppednngjaaGreatRA
import Derived.Deep.RegionHeld3
namespace Go.Proofs.YtdcceppednngjaaGreat
open Go.RowKit
set_option linter.unusedVariables false

theorem below_drewNR {B : Nat} {a w : World} (h : Below B a w) (n : Nat) : Below B a (w.drewN n) := ⟨h.os, h.tape, h.output, h.size, h.block⟩
set_option maxHeartbeats 3200000 in
theorem spec_l03Add_same (w : World) (B : Nat) (hB : B ≤ w.heap.size) (s : Bool) (A : Option Addr) (n c : Nat) (xs : List Int) (Rx : RdI w B A n xs) (hx : natB xs = true) (t : Bool) (A' : Option Addr) (m c' : Nat) (ys : List Int) (Ry : RdI w B A' m ys) (hy : natB ys = true) (hst : (s == t) = true) :
    Calls Tryz.prog 58 #[.agg #[.bool s, .slice A n c], .agg #[.bool t, .slice A' m c']] w fun e w' => ∃ v, e = .returned (.agg #[.bool (capZ (zv s xs + zv t ys)).1, v]) ∧ Own w' w.heap.size w'.heap.size 3 v (capZ (zv s xs + zv t ys)).2.length (iv (capZ (zv s xs + zv t ys)).2) ∧ Below w.heap.size w w' := by
  obtain ⟨W0, hW0⟩ : ∃ W0, W0 = ((w.alloc (.cells #[.bool s, .slice A n c] 28)).alloc (.cells #[.bool t, .slice A' m c'] 28)).alloc (.cells #[.bool false, .slice none 0 0] 28) := ⟨_, rfl⟩
  have hb0 : Below w.heap.size w W0 := by rw [hW0]; exact below_alloc (below_alloc (below_new _ _) _) _
  have kx : Box W0 w.heap.size 28 #[.bool s, .slice A n c] := by rw [hW0]; exact ((Box.last _ _ _ rfl).alloc _).alloc _
  have ky : Box W0 (w.heap.size + 1) 28 #[.bool t, .slice A' m c'] := by rw [hW0]; exact (Box.last _ _ _ (alloc_size _ _).symm).alloc _
  have kr : Box W0 (w.heap.size + 2) 28 #[.bool false, .slice none 0 0] := by rw [hW0]; exact Box.last _ _ _ (by rw [alloc_size, alloc_size])
  have hs0 : W0.heap.size = w.heap.size + 3 := by rw [hW0, alloc_size, alloc_size, alloc_size]
  have R0 := Rx.below (hb0.mono hB)
  have R1 := Ry.below (hb0.mono hB)
  obtain ⟨x0, x1, _, _⟩ := kx.facts
  obtain ⟨y0, y1, _, _⟩ := ky.facts
  have HZ : Hid (∀ acc : List Int, Limbs acc → val acc = val xs + val ys → (s && !(capT acc).isEmpty, capT acc) = capZ (zv s xs + zv t ys)) := fun acc hl hv => by
    have h1 := natV_val hx
    have h2 := natV_val hy
    rw [make_eq (k := natV xs + natV ys) hl (by omega), zv_nat hx, zv_nat hy]
    have : s = t := by simpa using hst
    subst this
    cases s
    · simp
    · simp; congr 1; omega
  generalize capZ (zv s xs + zv t ys) = Z at HZ ⊢
  have HX := hide kx
  have HY := hide ky
  have HR := hide kr
  have HB0 := hide hb0
  have hlx := ((natB_iff xs).1 hx).1.1
  have hly := ((natB_iff ys).1 hy).1.1
  have HC := hide (fun (W : World) (h : Below W0.heap.size W0 W) => spec_Add W B (by have := h.size; omega) A A' n m c c' xs ys R0.1 R1.1 (R0.2.1.below (h.mono (by omega))) (R1.2.1.below (h.mono (by omega))) (by have := R0.2.2.1; omega) (by have := R1.2.2.1; omega) hlx hly)
  have HS0 : Hid (Below W0.heap.size W0 W0.drew) := (Below.refl _ _).drew
  have HKS := hide (fun (W : World) (hq : Below W0.heap.size W0 W) => (⟨(HX.out.below hq HX.out.lt).cell 0, (HX.out.below hq HX.out.lt).cell 1, (HY.out.below hq HY.out.lt).cell 0, (HY.out.below hq HY.out.lt).cell 1⟩ : W.cell? ⟨w.heap.size, 0, none⟩ = some (.bool s) ∧ W.cell? ⟨w.heap.size, 1, none⟩ = some (.slice A n c) ∧ W.cell? ⟨w.heap.size + 1, 0, none⟩ = some (.bool t) ∧ W.cell? ⟨w.heap.size + 1, 1, none⟩ = some (.slice A' m c')))
  have HKR := hide (fun (W : World) (hq : Below W0.heap.size W0 W) => (⟨(HR.out.below hq HR.out.lt).cell 0, (HR.out.below hq HR.out.lt).cell 1, (HR.out.below hq HR.out.lt).frozen 0, (HR.out.below hq HR.out.lt).frozen 1⟩ : W.cell? ⟨w.heap.size + 2, 0, none⟩ = some (.bool false) ∧ W.cell? ⟨w.heap.size + 2, 1, none⟩ = some (.slice none 0 0) ∧ W.frozen? ⟨w.heap.size + 2, 0, none⟩ = false ∧ W.frozen? ⟨w.heap.size + 2, 1, none⟩ = false))
  have HKT := hide (fun (W : World) (hq : Below W0.heap.size W0 W) (x y : Value) => (⟨(((HX.out.below hq HX.out.lt).setv (show w.heap.size ≠ w.heap.size + 2 by omega) 0 x).setv (show w.heap.size ≠ w.heap.size + 2 by omega) 1 y).cell 0, (((HX.out.below hq HX.out.lt).setv (show w.heap.size ≠ w.heap.size + 2 by omega) 0 x).setv (show w.heap.size ≠ w.heap.size + 2 by omega) 1 y).cell 1, (((HY.out.below hq HY.out.lt).setv (show w.heap.size + 1 ≠ w.heap.size + 2 by omega) 0 x).setv (show w.heap.size + 1 ≠ w.heap.size + 2 by omega) 1 y).cell 0, (((HY.out.below hq HY.out.lt).setv (show w.heap.size + 1 ≠ w.heap.size + 2 by omega) 0 x).setv (show w.heap.size + 1 ≠ w.heap.size + 2 by omega) 1 y).cell 1⟩ : ((W.setCell ⟨w.heap.size + 2, 0, none⟩ x).setCell ⟨w.heap.size + 2, 1, none⟩ y).cell? ⟨w.heap.size, 0, none⟩ = some (.bool s) ∧ ((W.setCell ⟨w.heap.size + 2, 0, none⟩ x).setCell ⟨w.heap.size + 2, 1, none⟩ y).cell? ⟨w.heap.size, 1, none⟩ = some (.slice A n c) ∧ ((W.setCell ⟨w.heap.size + 2, 0, none⟩ x).setCell ⟨w.heap.size + 2, 1, none⟩ y).cell? ⟨w.heap.size + 1, 0, none⟩ = some (.bool t) ∧ ((W.setCell ⟨w.heap.size + 2, 0, none⟩ x).setCell ⟨w.heap.size + 2, 1, none⟩ y).cell? ⟨w.heap.size + 1, 1, none⟩ = some (.slice A' m c')))
  clear kx ky kr hb0 R0 R1 Rx Ry hx hy hlx hly
  go_enter Tryz.func58, Tryz.ntmps58
  go_wp2_with fail
  rw [← hW0]
  clear hW0
  go_wp2_with fail
  go_region_held3 (fun w' => w'.cell? ⟨w.heap.size, 0, none⟩ = some (.bool s) ∧ w'.cell? ⟨w.heap.size, 1, none⟩ = some (.slice A n c) ∧ w'.cell? ⟨w.heap.size + 1, 0, none⟩ = some (.bool t) ∧ w'.cell? ⟨w.heap.size + 1, 1, none⟩ = some (.slice A' m c'))
      (first | (with_reducible exact HKT.out _ HS2.out _ _) | (with_reducible exact HKS.out _ HS2.out) | (with_reducible exact HKS.out _ HS1.out) | (with_reducible exact HKS.out _ HS0.out))
      (first
        | (go_at_call 79; refine (HC.out _ HS0.out).mono ?_; rintro e w4 ⟨v1, acc, rfl, q1, hlim, hval, hlen, hb1⟩; have HL := hide hlim; have HV := hide hval; clear hlim hval; obtain ⟨A1, c1, rfl, _, _, _⟩ := own_reads q1; have HRD := hide (own_rd q1); have HC1 := hide (own_nilcap q1).2.1; have HCM := hide (own_nilcap q1).2.2; have HS1 := hide (below_then HS0.out hb1))
        | (go_at_call 50; refine (spec_Make _ _ (Nat.le_refl _) s _ _ _ _ rfl HRD.out HC1.out HCM.out).mono ?_; rintro e w5 ⟨v5, rfl, o5, hb2⟩; obtain ⟨A5, c5, rfl⟩ := o5.form; have HS2 := hide (below_then HS1.out hb2); obtain ⟨t0, t1, z0, z1⟩ := HKR.out _ HS2.out))
  have HO := hide (ret_big (x := .bool (s && !(capT acc).isEmpty)) (HR.out.below HS2.out HR.out.lt) o5 (below_then HB0.out HS2.out) (show w.heap.size ≤ w.heap.size + 2 by omega) (show w.heap.size + 2 < _ by have := HS1.out.size; omega) (Nat.le_refl _))
  have hz := HZ.out acc HL.out HV.out
  subst hz
  clear o5 hb1 hb2 t0 t1 z0 z1 q1
  go_wp2_with fail
  refine bodyPost_ret (results_cell_row rfl _ _ (w.heap.size + 2) _ #[.bool (s && !(capT acc).isEmpty), .slice A5 (capT acc).length c5] (0, 0) _ rfl HO.out.1 Tryz.underlying28 rfl Tryz.sizeBig) rfl ?_
  exact ⟨_, rfl, HO.out.2.1, HO.out.2.2⟩
set_option maxHeartbeats 3200000 in
theorem spec_l03Add_ge (w : World) (B : Nat) (hB : B ≤ w.heap.size) (s : Bool) (A : Option Addr) (n c : Nat) (xs : List Int) (Rx : RdI w B A n xs) (hx : natB xs = true) (t : Bool) (A' : Option Addr) (m c' : Nat) (ys : List Int) (Ry : RdI w B A' m ys) (hy : natB ys = true) (hst : (s == t) = false) (hst' : s = !t) (hc : val ys ≤ val xs) :
    Calls Tryz.prog 58 #[.agg #[.bool s, .slice A n c], .agg #[.bool t, .slice A' m c']] w fun e w' => ∃ v, e = .returned (.agg #[.bool (capZ (zv s xs + zv t ys)).1, v]) ∧ Own w' w.heap.size w'.heap.size 3 v (capZ (zv s xs + zv t ys)).2.length (iv (capZ (zv s xs + zv t ys)).2) ∧ Below w.heap.size w w' := by
  obtain ⟨W0, hW0⟩ : ∃ W0, W0 = ((w.alloc (.cells #[.bool s, .slice A n c] 28)).alloc (.cells #[.bool t, .slice A' m c'] 28)).alloc (.cells #[.bool false, .slice none 0 0] 28) := ⟨_, rfl⟩
  have hb0 : Below w.heap.size w W0 := by rw [hW0]; exact below_alloc (below_alloc (below_new _ _) _) _
  have kx : Box W0 w.heap.size 28 #[.bool s, .slice A n c] := by rw [hW0]; exact ((Box.last _ _ _ rfl).alloc _).alloc _
  have ky : Box W0 (w.heap.size + 1) 28 #[.bool t, .slice A' m c'] := by rw [hW0]; exact (Box.last _ _ _ (alloc_size _ _).symm).alloc _
  have kr : Box W0 (w.heap.size + 2) 28 #[.bool false, .slice none 0 0] := by rw [hW0]; exact Box.last _ _ _ (by rw [alloc_size, alloc_size])
  have hs0 : W0.heap.size = w.heap.size + 3 := by rw [hW0, alloc_size, alloc_size, alloc_size]
  have R0 := Rx.below (hb0.mono hB)
  have R1 := Ry.below (hb0.mono hB)
  obtain ⟨x0, x1, _, _⟩ := kx.facts
  obtain ⟨y0, y1, _, _⟩ := ky.facts
  have HZ : (s && !(capT (limbs (val xs - val ys).toNat)).isEmpty, capT (limbs (val xs - val ys).toNat)) = capZ (zv s xs + zv t ys) := by
    have h1 := natV_val hx
    have h2 := natV_val hy
    rw [make_limbs, zv_nat hx, zv_nat hy]
    subst hst'
    cases t
    · simp; congr 1; omega
    · simp; congr 1; omega
  obtain ⟨cv, hcv, hcl⟩ : ∃ cv : Int, cv = cmpV (val xs) (val ys) ∧ 0 ≤ cv := ⟨_, rfl, by
    unfold cmpV; rw [if_neg (by omega)]; split <;> omega⟩
  have hcx := ((natB_iff xs).1 hx).1
  have hcy := ((natB_iff ys).1 hy).1
  have HCM := hide (spec_Cmp W0 B A A' n m c c' xs ys R0.1 R1.1 R0.2.1 R1.2.1 (by have := R0.2.2.1; omega) (by have := R1.2.2.1; omega) hcx hcy)
  rw [← hcv] at HCM
  clear hcv
  have HX0 := hide kx
  have HY0 := hide ky
  have HR0 := hide kr
  have HB0 := hide hb0
  have HQ0 := hide R0
  have HQ1 := hide R1
  generalize capZ (zv s xs + zv t ys) = Z at HZ ⊢
  have HZ2 := hide HZ
  clear HZ kx ky kr hb0 R0 R1 Rx Ry hx hy hst'
  go_enter Tryz.func58, Tryz.ntmps58
  go_wp2_with fail
  rw [← hW0]
  clear hW0
  go_wp2_with fail
  refine HCM.out.mono ?_
  rintro e w1 ⟨rfl, hd⟩
  have hb1 : Below W0.heap.size W0 w1 := by obtain ⟨d, rfl⟩ := hd; exact below_drewNR (Below.refl _ _) d
  clear hd HCM x0 x1 y0 y1
  have HX := hide (HX0.out.below hb1 HX0.out.lt)
  have HY := hide (HY0.out.below hb1 HY0.out.lt)
  have HR := hide (HR0.out.below hb1 HR0.out.lt)
  have hs1 := hb1.size
  have HB1 := hide (below_then HB0.out hb1)
  have R0 := HQ0.out.below (hb1.mono (by omega))
  have R1 := HQ1.out.below (hb1.mono (by omega))
  obtain ⟨x0, x1, _, _⟩ := HX.out.facts
  obtain ⟨y0, y1, _, _⟩ := HY.out.facts
  have HC := hide (fun (W : World) (h : Below w1.heap.size w1 W) => spec_Sub W B (by have := h.size; omega) A A' n m c c' xs ys R0.1 R1.1 (R0.2.1.below (h.mono (by omega))) (R1.2.1.below (h.mono (by omega))) (by have := R0.2.2.1; omega) hcx hcy (by omega))
  have HS0 : Hid (Below w1.heap.size w1 w1.drew) := (Below.refl _ _).drew
  have HKS := hide (fun (W : World) (hq : Below w1.heap.size w1 W) => (⟨(HX.out.below hq HX.out.lt).cell 0, (HX.out.below hq HX.out.lt).cell 1, (HY.out.below hq HY.out.lt).cell 0, (HY.out.below hq HY.out.lt).cell 1⟩ : W.cell? ⟨w.heap.size, 0, none⟩ = some (.bool s) ∧ W.cell? ⟨w.heap.size, 1, none⟩ = some (.slice A n c) ∧ W.cell? ⟨w.heap.size + 1, 0, none⟩ = some (.bool t) ∧ W.cell? ⟨w.heap.size + 1, 1, none⟩ = some (.slice A' m c')))
  have HKR := hide (fun (W : World) (hq : Below w1.heap.size w1 W) => (⟨(HR.out.below hq HR.out.lt).cell 0, (HR.out.below hq HR.out.lt).cell 1, (HR.out.below hq HR.out.lt).frozen 0, (HR.out.below hq HR.out.lt).frozen 1⟩ : W.cell? ⟨w.heap.size + 2, 0, none⟩ = some (.bool false) ∧ W.cell? ⟨w.heap.size + 2, 1, none⟩ = some (.slice none 0 0) ∧ W.frozen? ⟨w.heap.size + 2, 0, none⟩ = false ∧ W.frozen? ⟨w.heap.size + 2, 1, none⟩ = false))
  have HKT := hide (fun (W : World) (hq : Below w1.heap.size w1 W) (x y : Value) => (⟨(((HX.out.below hq HX.out.lt).setv (show w.heap.size ≠ w.heap.size + 2 by omega) 0 x).setv (show w.heap.size ≠ w.heap.size + 2 by omega) 1 y).cell 0, (((HX.out.below hq HX.out.lt).setv (show w.heap.size ≠ w.heap.size + 2 by omega) 0 x).setv (show w.heap.size ≠ w.heap.size + 2 by omega) 1 y).cell 1, (((HY.out.below hq HY.out.lt).setv (show w.heap.size + 1 ≠ w.heap.size + 2 by omega) 0 x).setv (show w.heap.size + 1 ≠ w.heap.size + 2 by omega) 1 y).cell 0, (((HY.out.below hq HY.out.lt).setv (show w.heap.size + 1 ≠ w.heap.size + 2 by omega) 0 x).setv (show w.heap.size + 1 ≠ w.heap.size + 2 by omega) 1 y).cell 1⟩ : ((W.setCell ⟨w.heap.size + 2, 0, none⟩ x).setCell ⟨w.heap.size + 2, 1, none⟩ y).cell? ⟨w.heap.size, 0, none⟩ = some (.bool s) ∧ ((W.setCell ⟨w.heap.size + 2, 0, none⟩ x).setCell ⟨w.heap.size + 2, 1, none⟩ y).cell? ⟨w.heap.size, 1, none⟩ = some (.slice A n c) ∧ ((W.setCell ⟨w.heap.size + 2, 0, none⟩ x).setCell ⟨w.heap.size + 2, 1, none⟩ y).cell? ⟨w.heap.size + 1, 0, none⟩ = some (.bool t) ∧ ((W.setCell ⟨w.heap.size + 2, 0, none⟩ x).setCell ⟨w.heap.size + 2, 1, none⟩ y).cell? ⟨w.heap.size + 1, 1, none⟩ = some (.slice A' m c')))
  clear hb1 R0 R1 hcx hcy hc HX0 HY0 HR0 HB0 HQ0 HQ1
  go_wp2_with fail
  go_region_held3 (fun w' => w'.cell? ⟨w.heap.size, 0, none⟩ = some (.bool s) ∧ w'.cell? ⟨w.heap.size, 1, none⟩ = some (.slice A n c) ∧ w'.cell? ⟨w.heap.size + 1, 0, none⟩ = some (.bool t) ∧ w'.cell? ⟨w.heap.size + 1, 1, none⟩ = some (.slice A' m c'))
      (first | (with_reducible exact HKT.out _ HS2.out _ _) | (with_reducible exact HKS.out _ HS2.out) | (with_reducible exact HKS.out _ HS1.out) | (with_reducible exact HKS.out _ HS0.out))
      (first
        | (go_at_call 78; refine (HC.out _ HS0.out).mono ?_; rintro e w4 ⟨v1, rfl, q1, hb1⟩; obtain ⟨A1, c1, rfl, _, _, _⟩ := own_reads q1; have HRD := hide (own_rd q1); have HC1 := hide (own_nilcap q1).2.1; have HCM := hide (own_nilcap q1).2.2; have HS1 := hide (below_then HS0.out hb1))
        | (go_at_call 50; refine (spec_Make _ _ (Nat.le_refl _) s _ _ _ _ rfl HRD.out HC1.out HCM.out).mono ?_; rintro e w5 ⟨v5, rfl, o5, hb2⟩; obtain ⟨A5, c5, rfl⟩ := o5.form; have HS2 := hide (below_then HS1.out hb2); obtain ⟨t0, t1, z0, z1⟩ := HKR.out _ HS2.out))
  have HO := hide (ret_big (x := .bool (s && !(capT (limbs (val xs - val ys).toNat)).isEmpty)) (HR.out.below HS2.out HR.out.lt) o5 (below_then HB1.out HS2.out) (show w.heap.size ≤ w.heap.size + 2 by omega) (show w.heap.size + 2 < _ by have := HS1.out.size; omega) (Nat.le_refl _))
  have hz := HZ2.out
  subst hz
  clear o5 hb1 hb2 t0 t1 z0 z1 q1
  go_wp2_with fail
  refine bodyPost_ret (results_cell_row rfl _ _ (w.heap.size + 2) _ #[.bool (s && !(capT (limbs (val xs - val ys).toNat)).isEmpty), .slice A5 (capT (limbs (val xs - val ys).toNat)).length c5] (0, 0) _ rfl HO.out.1 Tryz.underlying28 rfl Tryz.sizeBig) rfl ?_
  exact ⟨_, rfl, HO.out.2.1, HO.out.2.2⟩
set_option maxHeartbeats 3200000 in
theorem spec_l03Add_lt (w : World) (B : Nat) (hB : B ≤ w.heap.size) (s : Bool) (A : Option Addr) (n c : Nat) (xs : List Int) (Rx : RdI w B A n xs) (hx : natB xs = true) (t : Bool) (A' : Option Addr) (m c' : Nat) (ys : List Int) (Ry : RdI w B A' m ys) (hy : natB ys = true) (hst : (s == t) = false) (hst' : s = !t) (hc : val xs < val ys) :
    Calls Tryz.prog 58 #[.agg #[.bool s, .slice A n c], .agg #[.bool t, .slice A' m c']] w fun e w' => ∃ v, e = .returned (.agg #[.bool (capZ (zv s xs + zv t ys)).1, v]) ∧ Own w' w.heap.size w'.heap.size 3 v (capZ (zv s xs + zv t ys)).2.length (iv (capZ (zv s xs + zv t ys)).2) ∧ Below w.heap.size w w' := by
  obtain ⟨W0, hW0⟩ : ∃ W0, W0 = ((w.alloc (.cells #[.bool s, .slice A n c] 28)).alloc (.cells #[.bool t, .slice A' m c'] 28)).alloc (.cells #[.bool false, .slice none 0 0] 28) := ⟨_, rfl⟩
  have hb0 : Below w.heap.size w W0 := by rw [hW0]; exact below_alloc (below_alloc (below_new _ _) _) _
  have kx : Box W0 w.heap.size 28 #[.bool s, .slice A n c] := by rw [hW0]; exact ((Box.last _ _ _ rfl).alloc _).alloc _
  have ky : Box W0 (w.heap.size + 1) 28 #[.bool t, .slice A' m c'] := by rw [hW0]; exact (Box.last _ _ _ (alloc_size _ _).symm).alloc _
  have kr : Box W0 (w.heap.size + 2) 28 #[.bool false, .slice none 0 0] := by rw [hW0]; exact Box.last _ _ _ (by rw [alloc_size, alloc_size])
  have hs0 : W0.heap.size = w.heap.size + 3 := by rw [hW0, alloc_size, alloc_size, alloc_size]
  have R0 := Rx.below (hb0.mono hB)
  have R1 := Ry.below (hb0.mono hB)
  obtain ⟨x0, x1, _, _⟩ := kx.facts
  obtain ⟨y0, y1, _, _⟩ := ky.facts
  have HZ : (t && !(capT (limbs (val ys - val xs).toNat)).isEmpty, capT (limbs (val ys - val xs).toNat)) = capZ (zv s xs + zv t ys) := by
    have h1 := natV_val hx
    have h2 := natV_val hy
    rw [make_limbs, zv_nat hx, zv_nat hy]
    subst hst'
    cases t
    · simp; congr 1; omega
    · simp; congr 1; omega
  obtain ⟨cv, hcv, hcl⟩ : ∃ cv : Int, cv = cmpV (val xs) (val ys) ∧ ¬ 0 ≤ cv := ⟨_, rfl, by
    unfold cmpV; rw [if_pos hc]; omega⟩
  have hcx := ((natB_iff xs).1 hx).1
  have hcy := ((natB_iff ys).1 hy).1
  have HCM := hide (spec_Cmp W0 B A A' n m c c' xs ys R0.1 R1.1 R0.2.1 R1.2.1 (by have := R0.2.2.1; omega) (by have := R1.2.2.1; omega) hcx hcy)
  rw [← hcv] at HCM
  clear hcv
  have HX0 := hide kx
  have HY0 := hide ky
  have HR0 := hide kr
  have HB0 := hide hb0
  have HQ0 := hide R0
  have HQ1 := hide R1
  generalize capZ (zv s xs + zv t ys) = Z at HZ ⊢
  have HZ2 := hide HZ
  clear HZ kx ky kr hb0 R0 R1 Rx Ry hx hy hst'
  go_enter Tryz.func58, Tryz.ntmps58
  go_wp2_with fail
  rw [← hW0]
  clear hW0
  go_wp2_with fail
  refine HCM.out.mono ?_
  rintro e w1 ⟨rfl, hd⟩
  have hb1 : Below W0.heap.size W0 w1 := by obtain ⟨d, rfl⟩ := hd; exact below_drewNR (Below.refl _ _) d
  clear hd HCM x0 x1 y0 y1
  have HX := hide (HX0.out.below hb1 HX0.out.lt)
  have HY := hide (HY0.out.below hb1 HY0.out.lt)
  have HR := hide (HR0.out.below hb1 HR0.out.lt)
  have hs1 := hb1.size
  have HB1 := hide (below_then HB0.out hb1)
  have R0 := HQ0.out.below (hb1.mono (by omega))
  have R1 := HQ1.out.below (hb1.mono (by omega))
  obtain ⟨x0, x1, _, _⟩ := HX.out.facts
  obtain ⟨y0, y1, _, _⟩ := HY.out.facts
  have HC := hide (fun (W : World) (h : Below w1.heap.size w1 W) => spec_Sub W B (by have := h.size; omega) A' A m n c' c ys xs R1.1 R0.1 (R1.2.1.below (h.mono (by omega))) (R0.2.1.below (h.mono (by omega))) (by have := R1.2.2.1; omega) hcy hcx (by omega))
  have HS0 : Hid (Below w1.heap.size w1 w1.drew) := (Below.refl _ _).drew
  have HKS := hide (fun (W : World) (hq : Below w1.heap.size w1 W) => (⟨(HX.out.below hq HX.out.lt).cell 0, (HX.out.below hq HX.out.lt).cell 1, (HY.out.below hq HY.out.lt).cell 0, (HY.out.below hq HY.out.lt).cell 1⟩ : W.cell? ⟨w.heap.size, 0, none⟩ = some (.bool s) ∧ W.cell? ⟨w.heap.size, 1, none⟩ = some (.slice A n c) ∧ W.cell? ⟨w.heap.size + 1, 0, none⟩ = some (.bool t) ∧ W.cell? ⟨w.heap.size + 1, 1, none⟩ = some (.slice A' m c')))
  have HKR := hide (fun (W : World) (hq : Below w1.heap.size w1 W) => (⟨(HR.out.below hq HR.out.lt).cell 0, (HR.out.below hq HR.out.lt).cell 1, (HR.out.below hq HR.out.lt).frozen 0, (HR.out.below hq HR.out.lt).frozen 1⟩ : W.cell? ⟨w.heap.size + 2, 0, none⟩ = some (.bool false) ∧ W.cell? ⟨w.heap.size + 2, 1, none⟩ = some (.slice none 0 0) ∧ W.frozen? ⟨w.heap.size + 2, 0, none⟩ = false ∧ W.frozen? ⟨w.heap.size + 2, 1, none⟩ = false))
  have HKT := hide (fun (W : World) (hq : Below w1.heap.size w1 W) (x y : Value) => (⟨(((HX.out.below hq HX.out.lt).setv (show w.heap.size ≠ w.heap.size + 2 by omega) 0 x).setv (show w.heap.size ≠ w.heap.size + 2 by omega) 1 y).cell 0, (((HX.out.below hq HX.out.lt).setv (show w.heap.size ≠ w.heap.size + 2 by omega) 0 x).setv (show w.heap.size ≠ w.heap.size + 2 by omega) 1 y).cell 1, (((HY.out.below hq HY.out.lt).setv (show w.heap.size + 1 ≠ w.heap.size + 2 by omega) 0 x).setv (show w.heap.size + 1 ≠ w.heap.size + 2 by omega) 1 y).cell 0, (((HY.out.below hq HY.out.lt).setv (show w.heap.size + 1 ≠ w.heap.size + 2 by omega) 0 x).setv (show w.heap.size + 1 ≠ w.heap.size + 2 by omega) 1 y).cell 1⟩ : ((W.setCell ⟨w.heap.size + 2, 0, none⟩ x).setCell ⟨w.heap.size + 2, 1, none⟩ y).cell? ⟨w.heap.size, 0, none⟩ = some (.bool s) ∧ ((W.setCell ⟨w.heap.size + 2, 0, none⟩ x).setCell ⟨w.heap.size + 2, 1, none⟩ y).cell? ⟨w.heap.size, 1, none⟩ = some (.slice A n c) ∧ ((W.setCell ⟨w.heap.size + 2, 0, none⟩ x).setCell ⟨w.heap.size + 2, 1, none⟩ y).cell? ⟨w.heap.size + 1, 0, none⟩ = some (.bool t) ∧ ((W.setCell ⟨w.heap.size + 2, 0, none⟩ x).setCell ⟨w.heap.size + 2, 1, none⟩ y).cell? ⟨w.heap.size + 1, 1, none⟩ = some (.slice A' m c')))
  clear hb1 R0 R1 hcx hcy hc HX0 HY0 HR0 HB0 HQ0 HQ1
  go_wp2_with fail
  go_region_held3 (fun w' => w'.cell? ⟨w.heap.size, 0, none⟩ = some (.bool s) ∧ w'.cell? ⟨w.heap.size, 1, none⟩ = some (.slice A n c) ∧ w'.cell? ⟨w.heap.size + 1, 0, none⟩ = some (.bool t) ∧ w'.cell? ⟨w.heap.size + 1, 1, none⟩ = some (.slice A' m c'))
      (first | (with_reducible exact HKT.out _ HS2.out _ _) | (with_reducible exact HKS.out _ HS2.out) | (with_reducible exact HKS.out _ HS1.out) | (with_reducible exact HKS.out _ HS0.out))
      (first
        | (go_at_call 78; refine (HC.out _ HS0.out).mono ?_; rintro e w4 ⟨v1, rfl, q1, hb1⟩; obtain ⟨A1, c1, rfl, _, _, _⟩ := own_reads q1; have HRD := hide (own_rd q1); have HC1 := hide (own_nilcap q1).2.1; have HCM := hide (own_nilcap q1).2.2; have HS1 := hide (below_then HS0.out hb1))
        | (go_at_call 50; refine (spec_Make _ _ (Nat.le_refl _) t _ _ _ _ rfl HRD.out HC1.out HCM.out).mono ?_; rintro e w5 ⟨v5, rfl, o5, hb2⟩; obtain ⟨A5, c5, rfl⟩ := o5.form; have HS2 := hide (below_then HS1.out hb2); obtain ⟨t0, t1, z0, z1⟩ := HKR.out _ HS2.out))
  have HO := hide (ret_big (x := .bool (t && !(capT (limbs (val ys - val xs).toNat)).isEmpty)) (HR.out.below HS2.out HR.out.lt) o5 (below_then HB1.out HS2.out) (show w.heap.size ≤ w.heap.size + 2 by omega) (show w.heap.size + 2 < _ by have := HS1.out.size; omega) (Nat.le_refl _))
  have hz := HZ2.out
  subst hz
  clear o5 hb1 hb2 t0 t1 z0 z1 q1
  go_wp2_with fail
  refine bodyPost_ret (results_cell_row rfl _ _ (w.heap.size + 2) _ #[.bool (t && !(capT (limbs (val ys - val xs).toNat)).isEmpty), .slice A5 (capT (limbs (val ys - val xs).toNat)).length c5] (0, 0) _ rfl HO.out.1 Tryz.underlying28 rfl Tryz.sizeBig) rfl ?_
  exact ⟨_, rfl, HO.out.2.1, HO.out.2.2⟩
theorem spec_l03Add (w : World) (B : Nat) (hB : B ≤ w.heap.size) (s : Bool) (A : Option Addr) (n c : Nat) (xs : List Int) (Rx : RdI w B A n xs) (hx : natB xs = true) (t : Bool) (A' : Option Addr) (m c' : Nat) (ys : List Int) (Ry : RdI w B A' m ys) (hy : natB ys = true) :
    Calls Tryz.prog 58 #[.agg #[.bool s, .slice A n c], .agg #[.bool t, .slice A' m c']] w fun e w' => ∃ v, e = .returned (.agg #[.bool (capZ (zv s xs + zv t ys)).1, v]) ∧ Own w' w.heap.size w'.heap.size 3 v (capZ (zv s xs + zv t ys)).2.length (iv (capZ (zv s xs + zv t ys)).2) ∧ Below w.heap.size w w' := by
  by_cases h : s = t
  · exact spec_l03Add_same w B hB s A n c xs Rx hx t A' m c' ys Ry hy (by simpa using h)
  · have h1 : (s == t) = false := by simpa using h
    by_cases hc : val xs < val ys
    · exact spec_l03Add_lt w B hB s A n c xs Rx hx t A' m c' ys Ry hy h1 (by cases s <;> cases t <;> simp_all) hc
    · exact spec_l03Add_ge w B hB s A n c xs Rx hx t A' m c' ys Ry hy h1 (by cases s <;> cases t <;> simp_all) (by omega)
end Go.Proofs.YtdcceppednngjaaGreat
