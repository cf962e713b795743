/-
  The program's big integers: contracts (7): Sub.
-/
import Derived.Test.YtcpncoonbdbkmaaGreatBX
namespace Go.Proofs.YtcpncoonbdbkmaaGreat
open Go.RowKit
set_option linter.unusedVariables false

set_option maxHeartbeats 3200000 in
theorem impl_BigIntSub (w : World) (B : Nat) (hB : B ≤ w.heap.size) (s : Bool) (A : Option Addr) (n c : Nat) (xs : List Int) (Rx : RdI w B A n xs) (t : Bool) (A' : Option Addr) (m c' : Nat) (ys : List Int) (Ry : RdI w B A' m ys) :
    Calls Tryz.prog 99 #[.agg #[.bool s, .slice A n c], .agg #[.bool t, .slice A' m c']] w fun e w' => ∃ v, e = .returned (.agg #[.bool (subZ s xs t ys).1, v]) ∧ Own w' w.heap.size w'.heap.size 3 v (subZ s xs t ys).2.length (iv (subZ s xs t ys).2) ∧ Below w.heap.size w w' := by
  obtain ⟨W0, hW0⟩ : ∃ W0, W0 = ((w.alloc (.cells #[.bool s, .slice A n c] 25)).alloc (.cells #[.bool t, .slice A' m c'] 25)).alloc (.cells #[.bool false, .slice none 0 0] 25) := ⟨_, rfl⟩
  have hb0 : Below w.heap.size w W0 := by rw [hW0]; exact below_alloc (below_alloc (below_new _ _) _) _
  have kx : Box W0 w.heap.size 25 #[.bool s, .slice A n c] := by rw [hW0]; exact ((Box.last _ _ _ rfl).alloc _).alloc _
  have ky : Box W0 (w.heap.size + 1) 25 #[.bool t, .slice A' m c'] := by rw [hW0]; exact (Box.last _ _ _ (alloc_size _ _).symm).alloc _
  have kr : Box W0 (w.heap.size + 2) 25 #[.bool false, .slice none 0 0] := by rw [hW0]; exact Box.last _ _ _ (by rw [alloc_size, alloc_size])
  have hs0 : W0.heap.size = w.heap.size + 3 := by rw [hW0, alloc_size, alloc_size, alloc_size]
  have x0 := kx.cell 0
  have x1 := kx.cell 1
  have y0 := ky.cell 0
  have y1 := ky.cell 1
  simp only [List.getElem?_toArray, List.getElem?_cons_zero, List.getElem?_cons_succ] at x0 x1 y0 y1
  have HX := hide kx
  have HY := hide ky
  have HKS := hide (fun (W : World) (h : Below W0.heap.size W0 W) => (⟨(HX.out.below h HX.out.lt).cell 0, (HX.out.below h HX.out.lt).cell 1, (HY.out.below h HY.out.lt).cell 0, (HY.out.below h HY.out.lt).cell 1⟩ : W.cell? ⟨w.heap.size, 0, none⟩ = some (.bool s) ∧ W.cell? ⟨w.heap.size, 1, none⟩ = some (.slice A n c) ∧ W.cell? ⟨w.heap.size + 1, 0, none⟩ = some (.bool t) ∧ W.cell? ⟨w.heap.size + 1, 1, none⟩ = some (.slice A' m c')))
  have HC1 := hide (fun (W : World) => impl_signedOf_w W s A n c)
  have HC2 := hide (fun (W : World) => impl_signedOf_w W t A' m c')
  have HRX := hide Rx
  have HRY := hide Ry
  have HKR := hide kr
  clear kr
  have HB0 := hide hb0
  have HNO := hide (subZ_no (s := s) (t := t) (xs := xs) (ys := ys))
  have HOK := hide (subZ_ok (s := s) (t := t) (xs := xs) (ys := ys))
  generalize subZ s xs t ys = Z at HNO HOK ⊢
  clear kx ky hb0 Rx Ry
  go_enter Tryz.func99, Tryz.ntmps99
  go_upto_region 1 with fail
  rw [← hW0]
  clear hW0
  go_cut [5, 6] from 7 to 23 (fun s5 s6 wx => ∃ g h : Nat, s5 = .pointer (some ⟨g, 0, none⟩) ∧ s6 = .pointer (some ⟨h, 0, none⟩) ∧ Box wx g 118 #[.slice A n c, .bool s] ∧ Box wx h 118 #[.slice A' m c', .bool t] ∧ Below W0.heap.size W0 wx ∧ W0.heap.size ≤ g ∧ W0.heap.size ≤ h)
  case first =>
    go_region_held3 (fun w' => w'.cell? ⟨w.heap.size, 0, none⟩ = some (.bool s) ∧ w'.cell? ⟨w.heap.size, 1, none⟩ = some (.slice A n c) ∧ w'.cell? ⟨w.heap.size + 1, 0, none⟩ = some (.bool t) ∧ w'.cell? ⟨w.heap.size + 1, 1, none⟩ = some (.slice A' m c'))
      (first | (refine HKS.out _ ?_; repeat (first | (with_reducible exact Below.refl _ _) | (with_reducible refine Below.drew ?_) | (with_reducible refine below_alloc ?_ _))))
      (first
        | (go_at_call_has 107 A; refine (HC1.out _).mono ?_; rintro e w1 ⟨rfl, rfl⟩)
        | (go_at_call_has 107 A'; refine (HC2.out _).mono ?_; rintro e w1 ⟨rfl, rfl⟩))
    all_goals
      go_wp2_with fail
      go_meet
      case rel =>
        refine ⟨_, _, rfl, rfl, ?_, ?_, ?_, by omega, by omega⟩
        · refine Box.drew ?_
          repeat (first | (with_reducible exact Box.last _ _ _ (by (try simp only [alloc_size]); omega)) | (with_reducible refine Box.alloc ?_ _))
        · refine Box.drew ?_
          repeat (first | (with_reducible exact Box.last _ _ _ (by (try simp only [alloc_size]); omega)) | (with_reducible refine Box.alloc ?_ _))
        · repeat (first | (with_reducible exact Below.refl _ _) | (with_reducible refine Below.drew ?_) | (with_reducible refine below_alloc ?_ _))
  case rest =>
    obtain ⟨g, h, rfl, rfl, kg, kh, hb1, hgg, hgh⟩ := hcut
    clear x0 x1 y0 y1 HKS HC1 HC2 HX HY
    have hs1 := hb1.size
    have hb1' := below_then HB0.out hb1
    have g0 := kg.cell 0
    have g1 := kg.cell 1
    have h0 := kh.cell 0
    have h1 := kh.cell 1
    simp only [List.getElem?_toArray, List.getElem?_cons_zero, List.getElem?_cons_succ] at g0 g1 h0 h1
    have kr1 := HKR.out.below hb1 HKR.out.lt
    have R1 := HRX.out.below (hb1'.mono hB)
    go_wp2_with fail
    refine (impl_isValid wc B (by omega) s A n c xs R1).mono ?_
    rintro e w2 ⟨rfl, hb2⟩
    have kg2 := kg.below hb2 kg.lt
    have kh2 := kh.below hb2 kh.lt
    have kr2 := kr1.below hb2 kr1.lt
    clear kr1
    have z0 := kr2.frozen 0
    have z1 := kr2.frozen 1
    have t0 := kr2.cell 0
    have t1 := kr2.cell 1
    simp only [List.getElem?_toArray, List.getElem?_cons_zero, List.getElem?_cons_succ] at t0 t1
    have hs2 := hb2.size
    have hb2' := below_then hb1' hb2
    have R2x := HRX.out.below (hb2'.mono hB)
    have R2 := HRY.out.below (hb2'.mono hB)
    clear g0 g1 h0 h1 kg kh hb1 hb1' hb2 R1
    have g0 := kg2.cell 0
    have g1 := kg2.cell 1
    have h0 := kh2.cell 0
    have h1 := kh2.cell 1
    simp only [List.getElem?_toArray, List.getElem?_cons_zero, List.getElem?_cons_succ] at g0 g1 h0 h1
    by_cases hv : bigB s xs = true
    · rw [hv]
      go_wp2_with fail
      refine (impl_isValid w2 B (by omega) t A' m c' ys R2).mono ?_
      rintro e w3 ⟨rfl, hb3⟩
      have kg3 := kg2.below hb3 kg2.lt
      have kh3 := kh2.below hb3 kh2.lt
      have kr3 := kr2.below hb3 kr2.lt
      clear kr2 z0 z1 t0 t1
      have z0 := kr3.frozen 0
      have z1 := kr3.frozen 1
      have t0 := kr3.cell 0
      have t1 := kr3.cell 1
      simp only [List.getElem?_toArray, List.getElem?_cons_zero, List.getElem?_cons_succ] at t0 t1
      have hs3 := hb3.size
      have hb3' := below_then hb2' hb3
      have R3x := HRX.out.below (hb3'.mono hB)
      have R3y := HRY.out.below (hb3'.mono hB)
      clear g0 g1 h0 h1 kg2 kh2 hb2' hb3 R2x R2
      have g0 := kg3.cell 0
      have g1 := kg3.cell 1
      have h0 := kh3.cell 0
      have h1 := kh3.cell 1
      simp only [List.getElem?_toArray, List.getElem?_cons_zero, List.getElem?_cons_succ] at g0 g1 h0 h1
      by_cases hu : bigB t ys = true
      · have hz := HOK.out hv hu
        clear HOK HNO
        have hlx := ((natB_iff xs).1 (bigB_nat hv)).2
        have hly := ((natB_iff ys).1 (bigB_nat hu)).2
        have HOPC := hide (impl_minus w3 B (by omega) s A n c xs R3x ((natB_iff xs).1 (bigB_nat hv)).1 (by have := R3x.1; omega) t A' m c' ys R3y ((natB_iff ys).1 (bigB_nat hu)).1 (by have := R3y.1; omega))
        rw [hu]
        go_wp2_with fail
        have hz1 := hz
        generalize (zv s xs + zv (!t) ys) = z at hz1 HOPC
        refine HOPC.out.mono ?_
        rintro e w4 ⟨v4, sg, rfl, hsg, o4, hb4⟩
        obtain ⟨A4, c4, rfl⟩ := o4.form
        have kr4 := kr3.below hb4 kr3.lt
        have hb4' := below_then hb3' hb4
        have HBZ := hide (impl_bigIntZ w4 w3.heap.size w4.heap.size sg A4 _ c4 z hsg o4 (Nat.le_refl _))
        rw [← hz1] at HBZ
        clear kg3 kh3 kr3 z0 z1 t0 t1 g0 g1 h0 h1 R3x R3y hv hu hb3' HRX HRY hz hz1 hsg o4
        generalize limbs z.natAbs = L at *
        go_wp2_with fail
        refine HBZ.out.mono ?_
        rintro e w5 ⟨v5, rfl, o5, hb5⟩
        obtain ⟨A5, c5, rfl⟩ := o5.form
        have kr5 := kr4.below hb5 kr4.lt
        have hb5' := below_then hb4' hb5
        have z0 := kr5.frozen 0
        have z1 := kr5.frozen 1
        have t0 := kr5.cell 0
        have t1 := kr5.cell 1
        simp only [List.getElem?_toArray, List.getElem?_cons_zero, List.getElem?_cons_succ] at t0 t1
        have HO := hide (ret_big (x := .bool Z.1) kr5 o5 hb5' (show w.heap.size ≤ w.heap.size + 2 by omega) (by omega) (by have := hb4.size; have := hb5.size; omega))
        clear kr4 kr5 o5 hb4 hb4' hb5 hb5' HBZ
        go_wp2_with fail
        refine bodyPost_ret (results_cell_row rfl _ _ (w.heap.size + 2) _ #[.bool Z.1, .slice A5 Z.2.length c5] (0, 0) _ rfl HO.out.1 Tryz.underlying25 rfl Tryz.sizeBig) rfl ?_
        exact ⟨_, rfl, HO.out.2.1, HO.out.2.2⟩
      · have hu : bigB t ys = false := by simpa using hu
        have hz := HNO.out (.inr hu)
        subst hz
        rw [hu]
        have HO := hide (ret_big0 (x := .bool false) (v := .slice none 0 0) kr3 hb3' (show w.heap.size ≤ w.heap.size + 2 by omega))
        clear kr3 hb3'
        go_wp2_with fail
        refine bodyPost_ret (results_cell_row rfl _ _ (w.heap.size + 2) _ #[.bool false, .slice none 0 0] (0, 0) _ rfl HO.out.1 Tryz.underlying25 rfl Tryz.sizeBig) rfl ?_
        exact ⟨_, rfl, Own.nil _ _ _ _, HO.out.2⟩
    · have hv : bigB s xs = false := by simpa using hv
      have hz := HNO.out (.inl hv)
      subst hz
      rw [hv]
      have HO := hide (ret_big0 (x := .bool false) (v := .slice none 0 0) kr2 hb2' (show w.heap.size ≤ w.heap.size + 2 by omega))
      clear kr2 hb2'
      go_wp2_with fail
      refine bodyPost_ret (results_cell_row rfl _ _ (w.heap.size + 2) _ #[.bool false, .slice none 0 0] (0, 0) _ rfl HO.out.1 Tryz.underlying25 rfl Tryz.sizeBig) rfl ?_
      exact ⟨_, rfl, Own.nil _ _ _ _, HO.out.2⟩
end Go.Proofs.YtcpncoonbdbkmaaGreat
