/-
  The reference's big integers: contracts (4): Add, Sub, Mul.
-/
import Derived.Test.YtcainjgcfbgddaaBigR3
import Derived.Test.YtcainjgcfbgddaaNatR5
namespace Go.Proofs.Ytcainjgcfbgddaa
open Go.RowKit
set_option linter.unusedVariables false

theorem addZ_noR {s t : Bool} {xs ys : List Int} (h : bigB s xs = false ∨ bigB t ys = false) : addZ s xs t ys = noZ := by rw [addZ, if_neg]; rcases h with h | h <;> simp [h]
theorem addZ_okR {s t : Bool} {xs ys : List Int} (h : bigB s xs = true) (k : bigB t ys = true) : capZ (zv s xs + zv t ys) = addZ s xs t ys := by rw [addZ, h, k]; rfl
theorem subZ_noR {s t : Bool} {xs ys : List Int} (h : bigB s xs = false ∨ bigB t ys = false) : subZ s xs t ys = noZ := by rw [subZ, if_neg]; rcases h with h | h <;> simp [h]
theorem subZ_okR {s t : Bool} {xs ys : List Int} (h : bigB s xs = true) (k : bigB t ys = true) : capZ (zv s xs + zv (!t && !ys.isEmpty) ys) = subZ s xs t ys := by rw [subZ, h, k, zv_norm, zv_neg, ← Int.sub_eq_add_neg]; rfl
theorem mulZ_noR {s t : Bool} {xs ys : List Int} (h : bigB s xs = false ∨ bigB t ys = false) : mulZ s xs t ys = noZ := by rw [mulZ, if_neg]; rcases h with h | h <;> simp [h]
theorem mulZ_okR {s t : Bool} {xs ys : List Int} (h : bigB s xs = true) (k : bigB t ys = true) : ((s != t) && !(capT (limbs (val xs * val ys).toNat)).isEmpty, capT (limbs (val xs * val ys).toNat)) = mulZ s xs t ys := by
  have hx := bigB_nat h
  have hy := bigB_nat k
  have h1 := natV_val hx
  have h2 := natV_val hy
  have e : (val xs * val ys).toNat = natV xs * natV ys := by rw [← h1, ← h2, ← Int.natCast_mul]; rfl
  rw [make_limbs, e, mulZ, h, k, zv_nat hx, zv_nat hy]
  show _ = capZ _
  cases s <;> cases t <;> simp [Int.neg_mul, Int.mul_neg]
set_option maxHeartbeats 3200000 in
theorem spec_BigIntAdd (w : World) (B : Nat) (hB : B ≤ w.heap.size) (s : Bool) (A : Option Addr) (n c : Nat) (xs : List Int) (Rx : RdI w B A n xs) (t : Bool) (A' : Option Addr) (m c' : Nat) (ys : List Int) (Ry : RdI w B A' m ys) :
    Calls Try.prog 26 #[.agg #[.bool s, .slice A n c], .agg #[.bool t, .slice A' m c']] w fun e w' => ∃ v, e = .returned (.agg #[.bool (addZ s xs t ys).1, v]) ∧ Own w' w.heap.size w'.heap.size 3 v (addZ s xs t ys).2.length (iv (addZ s xs t ys).2) ∧ Below w.heap.size w w' := by
  obtain ⟨W0, hW0⟩ : ∃ W0, W0 = ((w.alloc (.cells #[.bool s, .slice A n c] 27)).alloc (.cells #[.bool t, .slice A' m c'] 27)).alloc (.cells #[.bool false, .slice none 0 0] 27) := ⟨_, rfl⟩
  have hb0 : Below w.heap.size w W0 := by rw [hW0]; exact below_alloc (below_alloc (below_new _ _) _) _
  have kx : Box W0 w.heap.size 27 #[.bool s, .slice A n c] := by rw [hW0]; exact ((Box.last _ _ _ rfl).alloc _).alloc _
  have ky : Box W0 (w.heap.size + 1) 27 #[.bool t, .slice A' m c'] := by rw [hW0]; exact (Box.last _ _ _ (alloc_size _ _).symm).alloc _
  have kr : Box W0 (w.heap.size + 2) 27 #[.bool false, .slice none 0 0] := by rw [hW0]; exact Box.last _ _ _ (by rw [alloc_size, alloc_size])
  have hs0 : W0.heap.size = w.heap.size + 3 := by rw [hW0, alloc_size, alloc_size, alloc_size]
  have R0 := Rx.below (hb0.mono hB)
  have R1 := Ry.below (hb0.mono hB)
  obtain ⟨x0, x1, _, _⟩ := kx.facts
  obtain ⟨y0, y1, _, _⟩ := ky.facts
  have HNO := hide (addZ_noR (s := s) (t := t) (xs := xs) (ys := ys))
  have HOK := hide (addZ_okR (s := s) (t := t) (xs := xs) (ys := ys))
  generalize addZ s xs t ys = Z at HNO HOK ⊢
  go_enter Try.func26, Try.ntmps26
  go_wp2_with fail
  rw [← hW0]
  clear hW0
  refine (spec_BigIntOk W0 B (by omega) s A n c xs R0).mono ?_
  rintro e w1 ⟨rfl, hb1⟩
  have kx1 := kx.below hb1 kx.lt
  have ky1 := ky.below hb1 ky.lt
  have kr1 := kr.below hb1 kr.lt
  clear kr
  obtain ⟨t0, t1, z0, z1⟩ := kr1.facts
  have hb1' := below_then hb0 hb1
  have hs1 := hb1.size
  have R01 := R0.below (hb1.mono (by omega))
  have R11 := R1.below (hb1.mono (by omega))
  clear kx ky hb0 hb1 R0 R1 x0 x1 y0 y1
  obtain ⟨x0, x1, _, _⟩ := kx1.facts
  obtain ⟨y0, y1, _, _⟩ := ky1.facts
  by_cases hv : bigB s xs = true
  · rw [hv]
    go_wp2_with fail
    refine (spec_BigIntOk w1 B (by omega) t A' m c' ys R11).mono ?_
    rintro e w2 ⟨rfl, hb2⟩
    have kx2 := kx1.below hb2 kx1.lt
    have ky2 := ky1.below hb2 ky1.lt
    have kr2 := kr1.below hb2 kr1.lt
    clear kr1 t0 t1 z0 z1
    obtain ⟨t0, t1, z0, z1⟩ := kr2.facts
    have hb2' := below_then hb1' hb2
    have hs2 := hb2.size
    have R02 := R01.below (hb2.mono (by omega))
    have R12 := R11.below (hb2.mono (by omega))
    clear kx1 ky1 hb1' hb2 R01 R11 x0 x1 y0 y1
    obtain ⟨x0, x1, _, _⟩ := kx2.facts
    obtain ⟨y0, y1, _, _⟩ := ky2.facts
    by_cases hu : bigB t ys = true
    · have hz0 := HOK.out hv hu
      rw [hu]
      clear HNO HOK
      go_wp2_with fail
      refine (spec_l03Add w2 B (by omega) s A n c xs R02 (bigB_nat hv) t A' m c' ys R12 (bigB_nat hu)).mono ?_
      rintro e w5 ⟨v5, rfl, o5, hb5⟩
      rw [hz0] at o5
      rw [hz0]
      obtain ⟨A5, c5, rfl⟩ := o5.form
      have kr5 := kr2.below hb5 kr2.lt
      have hb5' := below_then hb2' hb5
      clear kx2 ky2 kr2 hb2' R02 R12 x0 x1 y0 y1 t0 t1 z0 z1 hz0
      obtain ⟨t0, t1, z0, z1⟩ := kr5.facts
      have HO := hide (ret_big (x := .bool Z.1) kr5 o5 hb5' (show w.heap.size ≤ w.heap.size + 2 by omega) (by omega) (Nat.le_refl _))
      clear kr5 o5 hb5 hb5'
      go_wp2_with fail
      refine bodyPost_ret (results_cell_row rfl _ _ (w.heap.size + 2) _ #[.bool Z.1, .slice A5 Z.2.length c5] (0, 0) _ rfl HO.out.1 Try.underlying27 rfl Try.sizeBig) rfl ?_
      exact ⟨_, rfl, HO.out.2.1, HO.out.2.2⟩
    · have hu : bigB t ys = false := by simpa using hu
      have hz := HNO.out (.inr hu)
      subst hz
      rw [hu]
      clear HNO HOK kx2 ky2 R02 R12
      have HO := hide (ret_big0 (x := .bool false) (v := .slice none 0 0) kr2 hb2' (show w.heap.size ≤ w.heap.size + 2 by omega))
      go_wp2_with fail
      refine bodyPost_ret (results_cell_row rfl _ _ (w.heap.size + 2) _ #[.bool false, .slice none 0 0] (0, 0) _ rfl HO.out.1 Try.underlying27 rfl Try.sizeBig) rfl ?_
      exact ⟨_, rfl, Own.nil _ _ _ _, HO.out.2⟩
  · have hv : bigB s xs = false := by simpa using hv
    have hz := HNO.out (.inl hv)
    subst hz
    rw [hv]
    clear HNO HOK kx1 ky1 R01 R11
    have HO := hide (ret_big0 (x := .bool false) (v := .slice none 0 0) kr1 hb1' (show w.heap.size ≤ w.heap.size + 2 by omega))
    go_wp2_with fail
    refine bodyPost_ret (results_cell_row rfl _ _ (w.heap.size + 2) _ #[.bool false, .slice none 0 0] (0, 0) _ rfl HO.out.1 Try.underlying27 rfl Try.sizeBig) rfl ?_
    exact ⟨_, rfl, Own.nil _ _ _ _, HO.out.2⟩
set_option maxHeartbeats 3200000 in
theorem spec_BigIntSub (w : World) (B : Nat) (hB : B ≤ w.heap.size) (s : Bool) (A : Option Addr) (n c : Nat) (xs : List Int) (Rx : RdI w B A n xs) (t : Bool) (A' : Option Addr) (m c' : Nat) (ys : List Int) (Ry : RdI w B A' m ys) (hc' : m ≤ c') (hcm' : c' ≤ maxLen) :
    Calls Try.prog 28 #[.agg #[.bool s, .slice A n c], .agg #[.bool t, .slice A' m c']] w fun e w' => ∃ v, e = .returned (.agg #[.bool (subZ s xs t ys).1, v]) ∧ Own w' w.heap.size w'.heap.size 3 v (subZ s xs t ys).2.length (iv (subZ s xs t ys).2) ∧ Below w.heap.size w w' := by
  obtain ⟨W0, hW0⟩ : ∃ W0, W0 = ((w.alloc (.cells #[.bool s, .slice A n c] 27)).alloc (.cells #[.bool t, .slice A' m c'] 27)).alloc (.cells #[.bool false, .slice none 0 0] 27) := ⟨_, rfl⟩
  have hb0 : Below w.heap.size w W0 := by rw [hW0]; exact below_alloc (below_alloc (below_new _ _) _) _
  have kx : Box W0 w.heap.size 27 #[.bool s, .slice A n c] := by rw [hW0]; exact ((Box.last _ _ _ rfl).alloc _).alloc _
  have ky : Box W0 (w.heap.size + 1) 27 #[.bool t, .slice A' m c'] := by rw [hW0]; exact (Box.last _ _ _ (alloc_size _ _).symm).alloc _
  have kr : Box W0 (w.heap.size + 2) 27 #[.bool false, .slice none 0 0] := by rw [hW0]; exact Box.last _ _ _ (by rw [alloc_size, alloc_size])
  have hs0 : W0.heap.size = w.heap.size + 3 := by rw [hW0, alloc_size, alloc_size, alloc_size]
  have R0 := Rx.below (hb0.mono hB)
  have R1 := Ry.below (hb0.mono hB)
  obtain ⟨x0, x1, _, _⟩ := kx.facts
  obtain ⟨y0, y1, _, _⟩ := ky.facts
  have HNO := hide (subZ_noR (s := s) (t := t) (xs := xs) (ys := ys))
  have HOK := hide (subZ_okR (s := s) (t := t) (xs := xs) (ys := ys))
  generalize subZ s xs t ys = Z at HNO HOK ⊢
  have HCC := hide hc'
  have HCD := hide hcm'
  clear hc' hcm'
  go_enter Try.func28, Try.ntmps28
  go_wp2_with fail
  rw [← hW0]
  clear hW0
  refine (spec_BigIntOk W0 B (by omega) s A n c xs R0).mono ?_
  rintro e w1 ⟨rfl, hb1⟩
  have kx1 := kx.below hb1 kx.lt
  have ky1 := ky.below hb1 ky.lt
  have kr1 := kr.below hb1 kr.lt
  clear kr
  obtain ⟨t0, t1, z0, z1⟩ := kr1.facts
  have hb1' := below_then hb0 hb1
  have hs1 := hb1.size
  have R01 := R0.below (hb1.mono (by omega))
  have R11 := R1.below (hb1.mono (by omega))
  clear kx ky hb0 hb1 R0 R1 x0 x1 y0 y1
  obtain ⟨x0, x1, _, _⟩ := kx1.facts
  obtain ⟨y0, y1, _, _⟩ := ky1.facts
  by_cases hv : bigB s xs = true
  · rw [hv]
    go_wp2_with fail
    refine (spec_BigIntOk w1 B (by omega) t A' m c' ys R11).mono ?_
    rintro e w2 ⟨rfl, hb2⟩
    have kx2 := kx1.below hb2 kx1.lt
    have ky2 := ky1.below hb2 ky1.lt
    have kr2 := kr1.below hb2 kr1.lt
    clear kr1 t0 t1 z0 z1
    obtain ⟨t0, t1, z0, z1⟩ := kr2.facts
    have hb2' := below_then hb1' hb2
    have hs2 := hb2.size
    have R02 := R01.below (hb2.mono (by omega))
    have R12 := R11.below (hb2.mono (by omega))
    clear kx1 ky1 hb1' hb2 R01 R11 x0 x1 y0 y1
    obtain ⟨x0, x1, _, _⟩ := kx2.facts
    obtain ⟨y0, y1, _, _⟩ := ky2.facts
    by_cases hu : bigB t ys = true
    · have hz0 := HOK.out hv hu
      rw [hu]
      clear HNO HOK
      have HX := hide kx2
      have HY := hide ky2
      have HR := hide kr2
      have HB2 := hide hb2'
      have HS0 : Hid (Below w2.heap.size w2 w2.drew) := (Below.refl _ _).drew
      have HKS := hide (fun (W : World) (hq : Below w2.heap.size w2 W) => (⟨(HX.out.below hq HX.out.lt).cell 0, (HX.out.below hq HX.out.lt).cell 1, (HY.out.below hq HY.out.lt).cell 0, (HY.out.below hq HY.out.lt).cell 1⟩ : W.cell? ⟨w.heap.size, 0, none⟩ = some (.bool s) ∧ W.cell? ⟨w.heap.size, 1, none⟩ = some (.slice A n c) ∧ W.cell? ⟨w.heap.size + 1, 0, none⟩ = some (.bool t) ∧ W.cell? ⟨w.heap.size + 1, 1, none⟩ = some (.slice A' m c')))
      have HKR := hide (fun (W : World) (hq : Below w2.heap.size w2 W) => (⟨(HR.out.below hq HR.out.lt).cell 0, (HR.out.below hq HR.out.lt).cell 1, (HR.out.below hq HR.out.lt).frozen 0, (HR.out.below hq HR.out.lt).frozen 1⟩ : W.cell? ⟨w.heap.size + 2, 0, none⟩ = some (.bool false) ∧ W.cell? ⟨w.heap.size + 2, 1, none⟩ = some (.slice none 0 0) ∧ W.frozen? ⟨w.heap.size + 2, 0, none⟩ = false ∧ W.frozen? ⟨w.heap.size + 2, 1, none⟩ = false))
      have HKT := hide (fun (W : World) (hq : Below w2.heap.size w2 W) (x y : Value) => (⟨(((HX.out.below hq HX.out.lt).setv (show w.heap.size ≠ w.heap.size + 2 by omega) 0 x).setv (show w.heap.size ≠ w.heap.size + 2 by omega) 1 y).cell 0, (((HX.out.below hq HX.out.lt).setv (show w.heap.size ≠ w.heap.size + 2 by omega) 0 x).setv (show w.heap.size ≠ w.heap.size + 2 by omega) 1 y).cell 1, (((HY.out.below hq HY.out.lt).setv (show w.heap.size + 1 ≠ w.heap.size + 2 by omega) 0 x).setv (show w.heap.size + 1 ≠ w.heap.size + 2 by omega) 1 y).cell 0, (((HY.out.below hq HY.out.lt).setv (show w.heap.size + 1 ≠ w.heap.size + 2 by omega) 0 x).setv (show w.heap.size + 1 ≠ w.heap.size + 2 by omega) 1 y).cell 1⟩ : ((W.setCell ⟨w.heap.size + 2, 0, none⟩ x).setCell ⟨w.heap.size + 2, 1, none⟩ y).cell? ⟨w.heap.size, 0, none⟩ = some (.bool s) ∧ ((W.setCell ⟨w.heap.size + 2, 0, none⟩ x).setCell ⟨w.heap.size + 2, 1, none⟩ y).cell? ⟨w.heap.size, 1, none⟩ = some (.slice A n c) ∧ ((W.setCell ⟨w.heap.size + 2, 0, none⟩ x).setCell ⟨w.heap.size + 2, 1, none⟩ y).cell? ⟨w.heap.size + 1, 0, none⟩ = some (.bool t) ∧ ((W.setCell ⟨w.heap.size + 2, 0, none⟩ x).setCell ⟨w.heap.size + 2, 1, none⟩ y).cell? ⟨w.heap.size + 1, 1, none⟩ = some (.slice A' m c')))
      have HC := hide (fun (W : World) (h : Below w2.heap.size w2 W) => spec_BigIntNeg W B (by have := h.size; omega) t A' m c' ys (R12.below (h.mono (by omega))) HCC.out HCD.out)
      have HNZ := hide (negZ_ok hu).symm
      have HL60 := hide (show ys.length ≤ 1048576 by have := R12.1; have := R12.2.2.1; omega)
      have HLI := hide ((natB_iff ys).1 (bigB_nat hu)).1.1
      have HRX := hide (fun (W : World) (h : Below w2.heap.size w2 W) => (R02.below (h.mono (show B ≤ w2.heap.size by omega))).at_ (Rd.wider (R02.2.1.below (h.mono (show B ≤ w2.heap.size by omega))) (show B ≤ W.heap.size by have := h.size; omega)))
      have HNX := hide (bigB_nat hv)
      have HNY := hide (bigB_nat hu)
      have HZ0 := hide hz0
      clear kx2 ky2 kr2 hb2' R02 R12 hz0 hv hu t0 t1 z0 z1
      go_wp2_with fail
      go_region_held3 (fun w' => w'.cell? ⟨w.heap.size, 0, none⟩ = some (.bool s) ∧ w'.cell? ⟨w.heap.size, 1, none⟩ = some (.slice A n c) ∧ w'.cell? ⟨w.heap.size + 1, 0, none⟩ = some (.bool t) ∧ w'.cell? ⟨w.heap.size + 1, 1, none⟩ = some (.slice A' m c'))
          (first | (with_reducible exact HKT.out _ HS2.out _ _) | (with_reducible exact HKS.out _ HS2.out) | (with_reducible exact HKS.out _ HS1.out) | (with_reducible exact HKS.out _ HS0.out))
          (first
            | (go_at_call 24; refine (HC.out _ HS0.out).mono ?_; rintro e w4 ⟨v1, rfl, o1, hb1⟩; rw [HNZ.out] at o1; rw [HNZ.out]; obtain ⟨A1, c1, rfl⟩ := o1.form; have HRI := hide (RdI.of_own o1 HL60.out HLI.out); have HS1 := hide (below_then HS0.out hb1))
            | (go_at_call 53; refine (spec_l03Add _ _ (Nat.le_refl _) s A n c xs (HRX.out _ HS1.out) HNX.out _ A1 _ c1 ys HRI.out HNY.out).mono ?_; rintro e w5 ⟨v5, rfl, o5, hb2⟩; rw [HZ0.out] at o5; rw [HZ0.out]; obtain ⟨A5, c5, rfl⟩ := o5.form; have HS2 := hide (below_then HS1.out hb2); obtain ⟨t0, t1, z0, z1⟩ := HKR.out _ HS2.out))
      have HO := hide (ret_big (x := .bool Z.1) (HR.out.below HS2.out HR.out.lt) o5 (below_then HB2.out HS2.out) (show w.heap.size ≤ w.heap.size + 2 by omega) (show w.heap.size + 2 < _ by have := HS1.out.size; omega) (Nat.le_refl _))
      clear o1 o5 hb1 hb2 t0 t1 z0 z1
      go_wp2_with fail
      refine bodyPost_ret (results_cell_row rfl _ _ (w.heap.size + 2) _ #[.bool Z.1, .slice A5 Z.2.length c5] (0, 0) _ rfl HO.out.1 Try.underlying27 rfl Try.sizeBig) rfl ?_
      exact ⟨_, rfl, HO.out.2.1, HO.out.2.2⟩
    · have hu : bigB t ys = false := by simpa using hu
      have hz := HNO.out (.inr hu)
      subst hz
      rw [hu]
      clear HNO HOK kx2 ky2 R02 R12
      have HO := hide (ret_big0 (x := .bool false) (v := .slice none 0 0) kr2 hb2' (show w.heap.size ≤ w.heap.size + 2 by omega))
      go_wp2_with fail
      refine bodyPost_ret (results_cell_row rfl _ _ (w.heap.size + 2) _ #[.bool false, .slice none 0 0] (0, 0) _ rfl HO.out.1 Try.underlying27 rfl Try.sizeBig) rfl ?_
      exact ⟨_, rfl, Own.nil _ _ _ _, HO.out.2⟩
  · have hv : bigB s xs = false := by simpa using hv
    have hz := HNO.out (.inl hv)
    subst hz
    rw [hv]
    clear HNO HOK kx1 ky1 R01 R11
    have HO := hide (ret_big0 (x := .bool false) (v := .slice none 0 0) kr1 hb1' (show w.heap.size ≤ w.heap.size + 2 by omega))
    go_wp2_with fail
    refine bodyPost_ret (results_cell_row rfl _ _ (w.heap.size + 2) _ #[.bool false, .slice none 0 0] (0, 0) _ rfl HO.out.1 Try.underlying27 rfl Try.sizeBig) rfl ?_
    exact ⟨_, rfl, Own.nil _ _ _ _, HO.out.2⟩
set_option maxHeartbeats 3200000 in
theorem spec_BigIntMul (w : World) (B : Nat) (hB : B ≤ w.heap.size) (s : Bool) (A : Option Addr) (n c : Nat) (xs : List Int) (Rx : RdI w B A n xs) (t : Bool) (A' : Option Addr) (m c' : Nat) (ys : List Int) (Ry : RdI w B A' m ys) :
    Calls Try.prog 30 #[.agg #[.bool s, .slice A n c], .agg #[.bool t, .slice A' m c']] w fun e w' => ∃ v, e = .returned (.agg #[.bool (mulZ s xs t ys).1, v]) ∧ Own w' w.heap.size w'.heap.size 3 v (mulZ s xs t ys).2.length (iv (mulZ s xs t ys).2) ∧ Below w.heap.size w w' := by
  obtain ⟨W0, hW0⟩ : ∃ W0, W0 = ((w.alloc (.cells #[.bool s, .slice A n c] 27)).alloc (.cells #[.bool t, .slice A' m c'] 27)).alloc (.cells #[.bool false, .slice none 0 0] 27) := ⟨_, rfl⟩
  have hb0 : Below w.heap.size w W0 := by rw [hW0]; exact below_alloc (below_alloc (below_new _ _) _) _
  have kx : Box W0 w.heap.size 27 #[.bool s, .slice A n c] := by rw [hW0]; exact ((Box.last _ _ _ rfl).alloc _).alloc _
  have ky : Box W0 (w.heap.size + 1) 27 #[.bool t, .slice A' m c'] := by rw [hW0]; exact (Box.last _ _ _ (alloc_size _ _).symm).alloc _
  have kr : Box W0 (w.heap.size + 2) 27 #[.bool false, .slice none 0 0] := by rw [hW0]; exact Box.last _ _ _ (by rw [alloc_size, alloc_size])
  have hs0 : W0.heap.size = w.heap.size + 3 := by rw [hW0, alloc_size, alloc_size, alloc_size]
  have R0 := Rx.below (hb0.mono hB)
  have R1 := Ry.below (hb0.mono hB)
  obtain ⟨x0, x1, _, _⟩ := kx.facts
  obtain ⟨y0, y1, _, _⟩ := ky.facts
  have HNO := hide (mulZ_noR (s := s) (t := t) (xs := xs) (ys := ys))
  have HOK := hide (mulZ_okR (s := s) (t := t) (xs := xs) (ys := ys))
  generalize mulZ s xs t ys = Z at HNO HOK ⊢
  go_enter Try.func30, Try.ntmps30
  go_wp2_with fail
  rw [← hW0]
  clear hW0
  refine (spec_BigIntOk W0 B (by omega) s A n c xs R0).mono ?_
  rintro e w1 ⟨rfl, hb1⟩
  have kx1 := kx.below hb1 kx.lt
  have ky1 := ky.below hb1 ky.lt
  have kr1 := kr.below hb1 kr.lt
  clear kr
  obtain ⟨t0, t1, z0, z1⟩ := kr1.facts
  have hb1' := below_then hb0 hb1
  have hs1 := hb1.size
  have R01 := R0.below (hb1.mono (by omega))
  have R11 := R1.below (hb1.mono (by omega))
  clear kx ky hb0 hb1 R0 R1 x0 x1 y0 y1
  obtain ⟨x0, x1, _, _⟩ := kx1.facts
  obtain ⟨y0, y1, _, _⟩ := ky1.facts
  by_cases hv : bigB s xs = true
  · rw [hv]
    go_wp2_with fail
    refine (spec_BigIntOk w1 B (by omega) t A' m c' ys R11).mono ?_
    rintro e w2 ⟨rfl, hb2⟩
    have kx2 := kx1.below hb2 kx1.lt
    have ky2 := ky1.below hb2 ky1.lt
    have kr2 := kr1.below hb2 kr1.lt
    clear kr1 t0 t1 z0 z1
    obtain ⟨t0, t1, z0, z1⟩ := kr2.facts
    have hb2' := below_then hb1' hb2
    have hs2 := hb2.size
    have R02 := R01.below (hb2.mono (by omega))
    have R12 := R11.below (hb2.mono (by omega))
    clear kx1 ky1 hb1' hb2 R01 R11 x0 x1 y0 y1
    obtain ⟨x0, x1, _, _⟩ := kx2.facts
    obtain ⟨y0, y1, _, _⟩ := ky2.facts
    by_cases hu : bigB t ys = true
    · have hz0 := HOK.out hv hu
      rw [hu]
      clear HNO HOK
      have HX := hide kx2
      have HY := hide ky2
      have HR := hide kr2
      have HB2 := hide hb2'
      have HS0 : Hid (Below w2.heap.size w2 w2.drew) := (Below.refl _ _).drew
      have HKS := hide (fun (W : World) (hq : Below w2.heap.size w2 W) => (⟨(HX.out.below hq HX.out.lt).cell 0, (HX.out.below hq HX.out.lt).cell 1, (HY.out.below hq HY.out.lt).cell 0, (HY.out.below hq HY.out.lt).cell 1⟩ : W.cell? ⟨w.heap.size, 0, none⟩ = some (.bool s) ∧ W.cell? ⟨w.heap.size, 1, none⟩ = some (.slice A n c) ∧ W.cell? ⟨w.heap.size + 1, 0, none⟩ = some (.bool t) ∧ W.cell? ⟨w.heap.size + 1, 1, none⟩ = some (.slice A' m c')))
      have HKR := hide (fun (W : World) (hq : Below w2.heap.size w2 W) => (⟨(HR.out.below hq HR.out.lt).cell 0, (HR.out.below hq HR.out.lt).cell 1, (HR.out.below hq HR.out.lt).frozen 0, (HR.out.below hq HR.out.lt).frozen 1⟩ : W.cell? ⟨w.heap.size + 2, 0, none⟩ = some (.bool false) ∧ W.cell? ⟨w.heap.size + 2, 1, none⟩ = some (.slice none 0 0) ∧ W.frozen? ⟨w.heap.size + 2, 0, none⟩ = false ∧ W.frozen? ⟨w.heap.size + 2, 1, none⟩ = false))
      have HKT := hide (fun (W : World) (hq : Below w2.heap.size w2 W) (x y : Value) => (⟨(((HX.out.below hq HX.out.lt).setv (show w.heap.size ≠ w.heap.size + 2 by omega) 0 x).setv (show w.heap.size ≠ w.heap.size + 2 by omega) 1 y).cell 0, (((HX.out.below hq HX.out.lt).setv (show w.heap.size ≠ w.heap.size + 2 by omega) 0 x).setv (show w.heap.size ≠ w.heap.size + 2 by omega) 1 y).cell 1, (((HY.out.below hq HY.out.lt).setv (show w.heap.size + 1 ≠ w.heap.size + 2 by omega) 0 x).setv (show w.heap.size + 1 ≠ w.heap.size + 2 by omega) 1 y).cell 0, (((HY.out.below hq HY.out.lt).setv (show w.heap.size + 1 ≠ w.heap.size + 2 by omega) 0 x).setv (show w.heap.size + 1 ≠ w.heap.size + 2 by omega) 1 y).cell 1⟩ : ((W.setCell ⟨w.heap.size + 2, 0, none⟩ x).setCell ⟨w.heap.size + 2, 1, none⟩ y).cell? ⟨w.heap.size, 0, none⟩ = some (.bool s) ∧ ((W.setCell ⟨w.heap.size + 2, 0, none⟩ x).setCell ⟨w.heap.size + 2, 1, none⟩ y).cell? ⟨w.heap.size, 1, none⟩ = some (.slice A n c) ∧ ((W.setCell ⟨w.heap.size + 2, 0, none⟩ x).setCell ⟨w.heap.size + 2, 1, none⟩ y).cell? ⟨w.heap.size + 1, 0, none⟩ = some (.bool t) ∧ ((W.setCell ⟨w.heap.size + 2, 0, none⟩ x).setCell ⟨w.heap.size + 2, 1, none⟩ y).cell? ⟨w.heap.size + 1, 1, none⟩ = some (.slice A' m c')))
      have hlx := ((natB_iff xs).1 (bigB_nat hv)).1.1
      have hly := ((natB_iff ys).1 (bigB_nat hu)).1.1
      have hnx := ((natB_iff xs).1 (bigB_nat hv)).2
      have hny := ((natB_iff ys).1 (bigB_nat hu)).2
      have HC := hide (fun (W : World) (h : Below w2.heap.size w2 W) => spec_Mul W B (by have := h.size; omega) A A' n m c c' xs ys R02.1 R12.1 (R02.2.1.below (h.mono (by omega))) (R12.2.1.below (h.mono (by omega))) (by have := R02.1; omega) (by have := R12.1; omega) hlx hly)
      have HZ0 := hide hz0
      clear kx2 ky2 kr2 hb2' R02 R12 hz0 hv hu t0 t1 z0 z1 hlx hly hnx hny
      go_wp2_with fail
      go_region_held3 (fun w' => w'.cell? ⟨w.heap.size, 0, none⟩ = some (.bool s) ∧ w'.cell? ⟨w.heap.size, 1, none⟩ = some (.slice A n c) ∧ w'.cell? ⟨w.heap.size + 1, 0, none⟩ = some (.bool t) ∧ w'.cell? ⟨w.heap.size + 1, 1, none⟩ = some (.slice A' m c'))
          (first | (with_reducible exact HKT.out _ HS2.out _ _) | (with_reducible exact HKS.out _ HS2.out) | (with_reducible exact HKS.out _ HS1.out) | (with_reducible exact HKS.out _ HS0.out))
          (first
            | (go_at_call 55; refine (HC.out _ HS0.out).mono ?_; rintro e w4 ⟨v1, rfl, q1, hb1⟩; obtain ⟨A1, c1, rfl, _, _, _⟩ := own_reads q1; have HRD := hide (own_rd q1); have HC1 := hide (own_nilcap q1).2.1; have HCM := hide (own_nilcap q1).2.2; have HS1 := hide (below_then HS0.out hb1))
            | (go_at_call 46; refine (spec_Make _ _ (Nat.le_refl _) (s != t) _ _ _ _ rfl HRD.out HC1.out HCM.out).mono ?_; rintro e w5 ⟨v5, rfl, o5, hb2⟩; obtain ⟨A5, c5, rfl⟩ := o5.form; have HS2 := hide (below_then HS1.out hb2); obtain ⟨t0, t1, z0, z1⟩ := HKR.out _ HS2.out))
      have HO := hide (ret_big (x := .bool ((s != t) && !(capT (limbs (val xs * val ys).toNat)).isEmpty)) (HR.out.below HS2.out HR.out.lt) o5 (below_then HB2.out HS2.out) (show w.heap.size ≤ w.heap.size + 2 by omega) (show w.heap.size + 2 < _ by have := HS1.out.size; omega) (Nat.le_refl _))
      have hz := HZ0.out
      subst hz
      clear q1 o5 hb1 hb2 t0 t1 z0 z1
      go_wp2_with fail
      refine bodyPost_ret (results_cell_row rfl _ _ (w.heap.size + 2) _ #[.bool ((s != t) && !(capT (limbs (val xs * val ys).toNat)).isEmpty), .slice A5 (capT (limbs (val xs * val ys).toNat)).length c5] (0, 0) _ rfl HO.out.1 Try.underlying27 rfl Try.sizeBig) rfl ?_
      exact ⟨_, rfl, HO.out.2.1, HO.out.2.2⟩
    · have hu : bigB t ys = false := by simpa using hu
      have hz := HNO.out (.inr hu)
      subst hz
      rw [hu]
      clear HNO HOK kx2 ky2 R02 R12
      have HO := hide (ret_big0 (x := .bool false) (v := .slice none 0 0) kr2 hb2' (show w.heap.size ≤ w.heap.size + 2 by omega))
      go_wp2_with fail
      refine bodyPost_ret (results_cell_row rfl _ _ (w.heap.size + 2) _ #[.bool false, .slice none 0 0] (0, 0) _ rfl HO.out.1 Try.underlying27 rfl Try.sizeBig) rfl ?_
      exact ⟨_, rfl, Own.nil _ _ _ _, HO.out.2⟩
  · have hv : bigB s xs = false := by simpa using hv
    have hz := HNO.out (.inl hv)
    subst hz
    rw [hv]
    clear HNO HOK kx1 ky1 R01 R11
    have HO := hide (ret_big0 (x := .bool false) (v := .slice none 0 0) kr1 hb1' (show w.heap.size ≤ w.heap.size + 2 by omega))
    go_wp2_with fail
    refine bodyPost_ret (results_cell_row rfl _ _ (w.heap.size + 2) _ #[.bool false, .slice none 0 0] (0, 0) _ rfl HO.out.1 Try.underlying27 rfl Try.sizeBig) rfl ?_
    exact ⟨_, rfl, Own.nil _ _ _ _, HO.out.2⟩
end Go.Proofs.Ytcainjgcfbgddaa
