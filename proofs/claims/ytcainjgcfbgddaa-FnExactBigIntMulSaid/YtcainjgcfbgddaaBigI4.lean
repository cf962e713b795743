/-
  The program's big integers: contracts (4): BigIntToInt, BigIntNeg.
-/
import Derived.Test.YtcainjgcfbgddaaBigI3
namespace Go.Proofs.Ytcainjgcfbgddaa
open Go.RowKit
set_option linter.unusedVariables false

theorem natInt_zero {xs : List Int} (h : natIntOk xs = false) : natInt xs = 0 := by rw [natInt, h]; rfl
theorem intZ_true {xs : List Int} (hv : bigB true xs = true) : intZ true xs = -natInt xs := by
  rw [intZ, intOkZ, hv, natInt]
  cases natIntOk xs <;> simp [zv]
theorem intZ_false {xs : List Int} (hv : bigB false xs = true) : intZ false xs = natInt xs := by
  rw [intZ, intOkZ, hv, natInt]
  cases natIntOk xs <;> simp [zv]
theorem natInt_b (xs : List Int) : 0 ≤ natInt xs ∧ natInt xs ≤ 9223372036854775807 := by
  unfold natInt; split
  · rename_i h
    unfold natIntOk at h; simp at h
    exact ⟨natV_nonneg h.1, h.2⟩
  · omega
set_option maxHeartbeats 800000 in
theorem impl_BigIntToInt (w : World) (B : Nat) (hB : B ≤ w.heap.size) (s : Bool) (A : Option Addr) (n c : Nat) (xs : List Int) (R : RdI w B A n xs) :
    Calls Try.prog 23 #[.agg #[.bool s, .slice A n c]] w fun e w' => e = .returned (.tuple #[.int .i64 (intZ s xs), .bool (intOkZ s xs)]) ∧ Below w.heap.size w w' := by
  have hb0 := below_new w (.cells #[.bool s, .slice A n c] 27)
  have hnb := natInt_b xs
  have fin : bigB s xs = false → intZ s xs = 0 ∧ intOkZ s xs = false := fun h => by rw [intZ, intOkZ, h]; exact ⟨rfl, rfl⟩
  have HF := hide fin
  have HT := hide (fun (h : s = true) (hv : bigB s xs = true) => by subst h; exact intZ_true hv : s = true → bigB s xs = true → intZ s xs = -natInt xs)
  have HU := hide (fun (h : s = false) (hv : bigB s xs = true) => by subst h; exact intZ_false hv : s = false → bigB s xs = true → intZ s xs = natInt xs)
  have HK := hide (fun (hv : bigB s xs = true) => by rw [intOkZ, hv]; rfl : bigB s xs = true → intOkZ s xs = natIntOk xs)
  clear fin
  generalize intZ s xs = Z at HF HT HU ⊢
  generalize intOkZ s xs = K at HF HK ⊢
  go_enter Try.func23, Try.ntmps23
  go_wp2_with fail
  refine (impl_signedOf _ s A n c).mono ?_
  rintro e w1 ⟨rfl, hb1⟩
  have hb1' := below_then hb0 hb1
  have k1 := Box.last w1 52 #[.slice A n c, .bool s] rfl
  have hbW := below_alloc hb1' (.cells #[.slice A n c, .bool s] 52)
  have hsW := hbW.size
  have RW := R.below (hbW.mono hB)
  go_wp2_with fail
  refine (impl_isValid _ B (by omega) s A n c xs RW).mono ?_
  rintro e w2 ⟨rfl, hb2⟩
  have k2 := k1.below hb2 k1.lt
  have hb2' := below_then hbW hb2
  have hs2 := hb2'.size
  have R2 := R.below (hb2'.mono hB)
  have d0 := k2.cell 0
  have d1 := k2.cell 1
  simp only [List.getElem?_toArray, List.getElem?_cons_zero, List.getElem?_cons_succ] at d0 d1
  clear hb0 hb1 hb1' k1 hbW hsW RW hb2
  by_cases hv : bigB s xs = true
  · have hHK := HK.out hv
    have hKK := hide k2
    clear k2
    rw [hv]
    go_wp2_with fail
    refine (impl_toInt w2 B (by omega) A n c xs R2).mono ?_
    rintro e w3 ⟨rfl, hb3⟩
    have k3 := hKK.out.below hb3 hKK.out.lt
    have e1 := k3.cell 1
    simp only [List.getElem?_toArray, List.getElem?_cons_zero, List.getElem?_cons_succ] at e1
    have hb3' := below_then hb2' hb3
    clear k3 hb3 hb2' d0 d1
    have HE := hide hHK
    clear hHK
    cases s
    · have H2 := hide (HU.out rfl hv)
      clear HU HT HF HK
      go_wp2_with fail
      go_ret2
      exact ⟨ret_pair H2.out.symm HE.out.symm, hb3'⟩
    · have H2 := hide (HT.out rfl hv)
      clear HU HT HF HK
      go_wp2_with fail
      go_ret2
      exact ⟨ret_pair H2.out.symm HE.out.symm, hb3'⟩
  · have hv : bigB s xs = false := by simpa using hv
    obtain ⟨hz, hk⟩ := HF.out hv
    subst hz; subst hk
    clear HF HT HU HK
    rw [hv]
    go_wp2_with fail
    go_ret2
    exact ⟨rfl, hb2'⟩

theorem negZ_no {s : Bool} {xs : List Int} (h : bigB s xs = false) : negZ s xs = noZ := by rw [negZ, h]; rfl
set_option maxHeartbeats 1600000 in
theorem impl_BigIntNeg (w : World) (B : Nat) (hB : B ≤ w.heap.size) (s : Bool) (A : Option Addr) (n c : Nat) (xs : List Int) (R : RdI w B A n xs) :
    Calls Try.prog 25 #[.agg #[.bool s, .slice A n c]] w fun e w' => ∃ v, e = .returned (.agg #[.bool (negZ s xs).1, v]) ∧ Own w' w.heap.size w'.heap.size 3 v (negZ s xs).2.length (iv (negZ s xs).2) ∧ Below w.heap.size w w' := by
  obtain ⟨W0, hW0⟩ : ∃ W0, W0 = (w.alloc (.cells #[.bool s, .slice A n c] 27)).alloc (.cells #[.bool false, .slice none 0 0] 27) := ⟨_, rfl⟩
  have hb0 : Below w.heap.size w W0 := by rw [hW0]; exact below_alloc (below_new _ _) _
  have k0 : Box W0 (w.heap.size + 1) 27 #[.bool false, .slice none 0 0] := by rw [hW0]; exact Box.last _ _ _ (alloc_size _ _).symm
  have kx : Box W0 w.heap.size 27 #[.bool s, .slice A n c] := by rw [hW0]; exact (Box.last _ _ _ rfl).alloc _
  have hs0 : W0.heap.size = w.heap.size + 2 := by rw [hW0, alloc_size, alloc_size]
  have x0 := kx.cell 0
  have x1 := kx.cell 1
  simp only [List.getElem?_toArray, List.getElem?_cons_zero, List.getElem?_cons_succ] at x0 x1
  have HN := hide (fun (h : bigB s xs = true) => negZ_ok h)
  have HM := hide (fun (h : bigB s xs = false) => negZ_no h)
  generalize negZ s xs = Z at HN HM ⊢
  go_enter Try.func25, Try.ntmps25
  go_wp2_with fail
  rw [← hW0]
  clear hW0 kx
  refine (impl_signedOf _ s A n c).mono ?_
  rintro e w1 ⟨rfl, hb1⟩
  have hb1' := below_then hb0 hb1
  have k1 := Box.last w1 52 #[.slice A n c, .bool s] rfl
  have r1 := (k0.below hb1 (by omega)).alloc (.cells #[.slice A n c, .bool s] 52)
  have hs1 := hb1.size
  have hbW := below_alloc hb1' (.cells #[.slice A n c, .bool s] 52)
  have hsW := hbW.size
  have RW := R.below (hbW.mono hB)
  clear x0 x1 k0
  go_wp2_with fail
  refine (impl_isValid _ B (by omega) s A n c xs RW).mono ?_
  rintro e w2 ⟨rfl, hb2⟩
  have k2 := k1.below hb2 k1.lt
  have r2 := r1.below hb2 r1.lt
  have hs2x := hb2.size
  rw [alloc_size] at hs2x
  have hb2' := below_then hbW hb2
  have hs2 := hb2'.size
  have R2 := R.below (hb2'.mono hB)
  have d0 := k2.cell 0
  have d1 := k2.cell 1
  have z0 := r2.frozen 0
  have z1 := r2.frozen 1
  have t0 := r2.cell 0
  have t1 := r2.cell 1
  simp only [List.getElem?_toArray, List.getElem?_cons_zero, List.getElem?_cons_succ] at d0 d1 t0 t1
  clear hb0 hb1 hb1' k1 hbW hsW RW hb2 r1
  by_cases hv : bigB s xs = true
  · have hn60 : n ≤ 60 := by have := ((natB_iff xs).1 (bigB_nat hv)).2; have := R.1; omega
    have hxl := R.1
    have HZ := hide (HN.out hv)
    have HS0 : Hid (Below w2.heap.size w2 w2.drew) := (Below.refl _ _).drew
    have HR2 := hide r2
    have HK2 := hide k2
    have HKS := hide (fun (W : World) (h : Below w2.heap.size w2 W) => (⟨(HK2.out.below h HK2.out.lt).cell 0, (HK2.out.below h HK2.out.lt).cell 1⟩ : W.cell? ⟨w1.heap.size, 0, none⟩ = some (.slice A n c) ∧ W.cell? ⟨w1.heap.size, 1, none⟩ = some (.bool s)))
    have HKR := hide (fun (W : World) (h : Below w2.heap.size w2 W) => (⟨(HR2.out.below h HR2.out.lt).cell 0, (HR2.out.below h HR2.out.lt).cell 1, (HR2.out.below h HR2.out.lt).frozen 0, (HR2.out.below h HR2.out.lt).frozen 1⟩ : W.cell? ⟨w.heap.size + 1, 0, none⟩ = some (.bool false) ∧ W.cell? ⟨w.heap.size + 1, 1, none⟩ = some (.slice none 0 0) ∧ W.frozen? ⟨w.heap.size + 1, 0, none⟩ = false ∧ W.frozen? ⟨w.heap.size + 1, 1, none⟩ = false))
    have HKT := hide (fun (W : World) (h : Below w2.heap.size w2 W) (x y : Value) => (⟨(((HK2.out.below h HK2.out.lt).setv (show w1.heap.size ≠ w.heap.size + 1 by omega) 0 x).setv (show w1.heap.size ≠ w.heap.size + 1 by omega) 1 y).cell 0, (((HK2.out.below h HK2.out.lt).setv (show w1.heap.size ≠ w.heap.size + 1 by omega) 0 x).setv (show w1.heap.size ≠ w.heap.size + 1 by omega) 1 y).cell 1⟩ : ((W.setCell ⟨w.heap.size + 1, 0, none⟩ x).setCell ⟨w.heap.size + 1, 1, none⟩ y).cell? ⟨w1.heap.size, 0, none⟩ = some (.slice A n c) ∧ ((W.setCell ⟨w.heap.size + 1, 0, none⟩ x).setCell ⟨w.heap.size + 1, 1, none⟩ y).cell? ⟨w1.heap.size, 1, none⟩ = some (.bool s)))
    have HC := hide (fun (W : World) (h : Below w2.heap.size w2 W) => impl_copied W B (by have := h.size; omega) A n c xs (R2.below (h.mono (by omega))) (by omega))
    have HD := hide (fun (W : World) (A' : Option Addr) (c' : Nat) => impl_bigInt W (!s) A' n c' xs hxl)
    have HB2 := hide hb2'
    have HX := hide hxl
    clear HN HM r2 k2 hb2' R2 R hxl t0 t1 z0 z1
    rw [hv]
    go_wp2_with fail
    go_region_held3 (fun w' => w'.cell? ⟨w1.heap.size, 0, none⟩ = some (.slice A n c) ∧ w'.cell? ⟨w1.heap.size, 1, none⟩ = some (.bool s))
        (first | (with_reducible exact HKT.out _ HS2.out _ _) | (with_reducible exact HKS.out _ HS2.out) | (with_reducible exact HKS.out _ HS1.out) | (with_reducible exact HKS.out _ HS0.out))
        (first
          | (go_at_call 52; refine (HC.out _ HS0.out).mono ?_; rintro e w3 ⟨v3, rfl, o3, hb3⟩; obtain ⟨A3, c3, rfl⟩ := o3.form; have HS1 := hide (below_then HS0.out hb3))
          | (go_at_call 49; refine (HD.out _ _ _).mono ?_; rintro e w4 ⟨rfl, hb4⟩; have HS2 := hide (below_then HS1.out hb4); obtain ⟨t0, t1, z0, z1⟩ := HKR.out _ HS2.out))
    have HO := hide (ret_big (x := .bool (!s && !xs.isEmpty)) (HR2.out.below HS2.out HR2.out.lt) (o3.below hb4 (Nat.le_refl _)) (below_then HB2.out HS2.out) (by omega) (by show w.heap.size + 1 < w2.heap.size; omega) hb4.size)
    have hz := HZ.out
    subst hz
    have hxl := HX.out
    subst hxl
    clear o3 hb3 hb4 t0 t1 z0 z1
    go_wp2_with fail
    refine bodyPost_ret (results_cell_row rfl _ _ (w.heap.size + 1) _ #[.bool (!s && !xs.isEmpty), .slice A3 xs.length c3] (0, 0) _ rfl HO.out.1 Try.underlying27 rfl Try.sizeBig) rfl ?_
    exact ⟨_, rfl, HO.out.2.1, HO.out.2.2⟩
  · have hv : bigB s xs = false := by simpa using hv
    have hz := HM.out hv
    subst hz
    have HO := hide (ret_big0 (x := .bool false) (v := .slice none 0 0) r2 hb2' (show w.heap.size ≤ w.heap.size + 1 by omega))
    clear HN HM r2 k2 hb2' R2 R
    rw [hv]
    go_wp2_with fail
    refine bodyPost_ret (results_cell_row rfl _ _ (w.heap.size + 1) _ #[.bool false, .slice none 0 0] (0, 0) _ rfl HO.out.1 Try.underlying27 rfl Try.sizeBig) rfl ?_
    exact ⟨_, rfl, Own.nil _ _ _ _, HO.out.2⟩
end Go.Proofs.Ytcainjgcfbgddaa
