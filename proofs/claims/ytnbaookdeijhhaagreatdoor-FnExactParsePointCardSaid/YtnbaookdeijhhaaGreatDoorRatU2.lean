/-
  Fractions as text: ParseRat: the reference.
-/
import Derived.Test.YtnbaookdeijhhaaGreatDoorRatU
import Derived.Test.YtnbaookdeijhhaaGreatDoorRatS
import Derived.Test.YtnbaookdeijhhaaGreatDoorBigR6
import Derived.Test.YtnbaookdeijhhaaGreatDoorSplitR
import Derived.Test.YtnbaookdeijhhaaGreatDoorPB
import Derived.Deep.CutRange
namespace Go.Proofs.YtnbaookdeijhhaaGreatDoor
open Go.RowKit
set_option linter.unusedVariables false
set_option maxRecDepth 100000 in
set_option maxHeartbeats 6400000 in
theorem spec_ParseRat (w : World) (B : Nat) (hB : B ≤ w.heap.size) (s : ByteArray) (hm : s.size ≤ 1048576) :
    Calls Tryz.prog 73 #[.string s] w fun e w' => ParsRes 3 w w' e s := by
  obtain ⟨W0, hW0⟩ : ∃ W0, W0 = (w.alloc (.cells #[.bool false, .slice none 0 0, .slice none 0 0] 27)) := ⟨_, rfl⟩
  have hb0 : Below w.heap.size w W0 := by rw [hW0]; exact below_new _ _
  have kr : Box W0 (w.heap.size) 27 #[.bool false, .slice none 0 0, .slice none 0 0] := by rw [hW0]; exact Box.last _ _ _ rfl
  have hs0 : W0.heap.size = w.heap.size + 1 := by rw [hW0, alloc_size]
  have HSP := hide (spec_SplitAny s ⟨#[47]⟩ W0 (by omega) (by show 1 ≤ _; omega))
  have hh : (headB s).size ≤ 1048576 := by have := (head_le s).1; omega
  have HH := hide (heads s)
  have HC1 := hide (fun (W : World) => spec_ParseBigInt W W.heap.size (Nat.le_refl _) (headB s) hh)
  generalize parseZ (headB s) = Y at *
  generalize parseZB (headB s) = zb at *
  generalize headB s = H at *
  clear hh
  go_enter Tryz.func73, Tryz.ntmps73
  go_upto_region 1 with fail
  rw [← hW0]
  clear hW0
  go_wp2_with fail
  refine HSP.out.mono ?_
  rintro e w1 ⟨v, rfl, q1, hb1⟩
  have hb1' := below_then hb0 hb1
  have kr1 := kr.below hb1 kr.lt
  have hs1 := hb1.size
  clear HSP kr hb0
  rcases HH.out with ⟨hsp, hA0⟩ | ⟨X1, r, hsp, hx, hA0⟩
  · clear HH
    have q2 : w1.ownsRow W0.heap.size 9 1 v 1 (sv [H]) := by rw [hsp] at q1; exact q1
    clear q1 hsp hb1
    obtain ⟨A0, c0, rfl, g1, g2, hrd⟩ := own_reads q2
    have HRD := hide hrd
    clear g1 g2 hrd
    obtain ⟨ad, rfl, hab, hac⟩ := HRD.out.str (k := 0) (by simp)
    have hac : w1.cell? (ad.add 0) = some (.string H) := hac
    have hac2 := hac
    rw [add_zero'] at hac2
    go_wp2_with fail
    refine (HC1.out w1).mono ?_
    rintro e w2 ⟨v1, rfl, o1, hb2⟩
    obtain ⟨A1, c1, rfl⟩ := o1.form
    clear hac hac2
    have kr2 := kr1.below hb2 kr1.lt
    have hs2 := hb2.size
    have hb2' := below_then hb1' hb2
    have kx2 := Box.last w2 25 #[.bool Y.1, .slice A1 Y.2.length c1] rfl
    have hb3' := below_alloc hb2' (.cells #[.bool Y.1, .slice A1 Y.2.length c1] 25)
    have kr3 := kr2.alloc (.cells #[.bool Y.1, .slice A1 Y.2.length c1] 25)
    have o3 := o1.below (below_new w2 (.cells #[.bool Y.1, .slice A1 Y.2.length c1] 25)) (Nat.le_refl _)
    have hs3 : (w2.alloc (.cells #[.bool Y.1, .slice A1 Y.2.length c1] 25)).heap.size = w2.heap.size + 1 := alloc_size _ _
    obtain ⟨W3, hW3⟩ : ∃ W3, W3 = w2.alloc (.cells #[.bool Y.1, .slice A1 Y.2.length c1] 25) := ⟨_, rfl⟩
    rw [← hW3] at kx2 hb3' kr3 o3 hs3
    clear kr1 kr2 hb1' hb2 o1 hb2'
    have hbN := below_new W3 (.cells #[.int .i64 1] 3)
    have oN := Own.of_row (own_one W3 3 (.int .i64 1)) (Nat.le_refl _)
    obtain ⟨WN, hWN⟩ : ∃ WN, WN = W3.alloc (.cells #[.int .i64 1] 3) := ⟨_, rfl⟩
    rw [← hWN] at hbN oN
    have hsN := hbN.size
    obtain ⟨L, hL⟩ : ∃ L, L = ([1] : List Int) := ⟨_, rfl⟩
    rw [← hL] at hA0
    have HLN : Hid (L.length = 1) := by rw [hL]; rfl
    obtain ⟨A2, hA2⟩ : ∃ A2, A2 = some (⟨w2.heap.size + 1, 0, none⟩ : Addr) := ⟨_, rfl⟩
    obtain ⟨w4, hw4⟩ : ∃ w4, w4 = WN := ⟨_, rfl⟩
    have o4 : Own w4 W3.heap.size w4.heap.size 3 (.slice A2 1 1) L.length (iv L) := by rw [hw4, hL, hA2, ← hs3]; exact oN
    have hb4 : Below W3.heap.size W3 w4 := by rw [hw4]; exact hbN
    have HA := hide hA0
    have HE := hide (asks_fine hA0)
    clear hA0 hL hbN oN hsN HC1 HRD
    go_upto_region 7 with fail
    rw [← hW3, ← hWN, ← hw4, ← hA2]
    clear hW3 hWN hw4
    have hs4 := hb4.size
    clear hA2
    have kr4 := kr3.below hb4 kr3.lt
    have kx4 := kx2.below hb4 kx2.lt
    have hb4' := below_then hb3' hb4
    have p4 := Pair.of o3 o4 hb4 (by omega) (show w1.heap.size ≤ _ by omega)
    obtain ⟨x0, x1⟩ := kx4.cells2
    have kq5 := Box.last w4 27 #[.bool Y.1, .slice A1 Y.2.length c1, .slice A2 1 1] rfl
    have kr5 := kr4.alloc (.cells #[.bool Y.1, .slice A1 Y.2.length c1, .slice A2 1 1] 27)
    have hb5' := below_alloc hb4' (.cells #[.bool Y.1, .slice A1 Y.2.length c1, .slice A2 1 1] 27)
    have p5 := p4.below (below_new w4 (.cells #[.bool Y.1, .slice A1 Y.2.length c1, .slice A2 1 1] 27))
    have hs5 : (w4.alloc (.cells #[.bool Y.1, .slice A1 Y.2.length c1, .slice A2 1 1] 27)).heap.size = w4.heap.size + 1 := alloc_size _ _
    obtain ⟨W5, hW5⟩ : ∃ W5, W5 = w4.alloc (.cells #[.bool Y.1, .slice A1 Y.2.length c1, .slice A2 1 1] 27) := ⟨_, rfl⟩
    rw [← hW5] at kq5 kr5 hb5' p5 hs5
    clear kr3 kx2 hb3' o3 o4 hb4 kr4 kx4 hb4' p4
    go_upto_region 8 with fail
    rw [← hW5]
    clear hW5 x0 x1
    cases zb
    · have HO := hide (ret_rat0 (F := 3) kr5 hb5' (Nat.le_refl _))
      obtain ⟨z0, z1, z2, z3, z4, z5⟩ := (kr5).facts3
      clear kr5 hb5' p5 kq5
      go_wp2_with fail
      refine bodyPost_ret (results_cell_tmp rfl _ _ w.heap.size _ #[.bool false, .slice none 0 0, .slice none 0 0] (0, 0) _ rfl HO.out.1 Tryz.underlying27 rfl Tryz.sizeRat) rfl ?_
      exact pars_no (HA.out.2.1 rfl) rfl HO.out.2.1 HO.out.2.2
    · obtain ⟨q1, q2⟩ := p5.rd
      have R1 := pair_rdI q1 rfl HA.out.2.2.2.2.2.2.2.1 HA.out.2.2.2.2.2.1
      have R2 := pair_rdI q2 HLN.out (by omega) HA.out.2.2.2.2.2.2.1
      have HF := hide (spec_FormatRat W5 W5.heap.size (Nat.le_refl _) Y.1 A1 _ c1 Y.2 R1 A2 _ 1 L R2)
      obtain ⟨a0, a1, a2⟩ := kq5.cells3
      clear q1 q2 R1 R2
      go_wp2_with fail
      refine HF.out.mono ?_
      rintro e w6 ⟨rfl, hb6⟩
      have kr6 := kr5.below hb6 kr5.lt
      have kq6 := kq5.below hb6 kq5.lt
      have hs6 := hb6.size
      have hb6' := below_then hb5' hb6
      have p6 := p5.below hb6
      clear a0 a1 a2 HF
      by_cases he : fmtR Y.1 Y.2 L = ⟨#[]⟩
      · have hq0 := str_nil he
        have hq1 := str_nilE he
        have hf : okRB s = false := HE.out he
        have HO := hide (ret_rat0 (F := 3) kr6 hb6' (Nat.le_refl _))
        obtain ⟨z0, z1, z2, z3, z4, z5⟩ := (kr6).facts3
        clear kr6 hb6' p6 kq6 kr5 p5 hb5' kq5 hb6
        go_wp2_with fail
        refine bodyPost_ret (results_cell_tmp rfl _ _ w.heap.size _ #[.bool false, .slice none 0 0, .slice none 0 0] (0, 0) _ rfl HO.out.1 Tryz.underlying27 rfl Tryz.sizeRat) rfl ?_
        exact pars_no hf rfl HO.out.2.1 HO.out.2.2
      · have hq0 := str_some he
        have hq1 := str_someE he
        obtain ⟨q1, q2⟩ := p6.rd
        have R1 := pair_rdI q1 rfl HA.out.2.2.2.2.2.2.2.1 HA.out.2.2.2.2.2.1
        have R2 := pair_rdI q2 HLN.out (by omega) HA.out.2.2.2.2.2.2.1
        have HF := hide (spec_FormatRat w6 w6.heap.size (Nat.le_refl _) Y.1 A1 _ c1 Y.2 R1 A2 _ 1 L R2)
        obtain ⟨a0, a1, a2⟩ := kq6.cells3
        clear q1 q2 R1 R2 kr5 p5 hb5' kq5 hb6
        go_wp2_with fail
        refine HF.out.mono ?_
        rintro e w7 ⟨rfl, hb7⟩
        have kr7 := kr6.below hb7 kr6.lt
        have kq7 := kq6.below hb7 kq6.lt
        have hs7 := hb7.size
        have hb7' := below_then hb6' hb7
        have p7 := p6.below hb7
        clear a0 a1 a2 HF kr6 kq6 hb6' p6 hb7
        by_cases hf : fmtR Y.1 Y.2 L = s
        · have hq := str_eq hf
          have HO := hide (ret_rat kr7 p7 hb7' (x := Y.1) (Nat.le_refl _) (by omega))
          obtain ⟨a0, a1, a2⟩ := kq7.cells3
          obtain ⟨z0, z1, z2, z3, z4, z5⟩ := kr7.facts3
          clear kr7 p7 hb7' kq7
          have hoks := HA.out.2.2.2.2.1 rfl rfl hf
          go_wp2_with fail
          refine bodyPost_ret (results_cell_tmp rfl _ _ w.heap.size _ #[.bool Y.1, .slice A1 Y.2.length c1, .slice A2 1 1] (0, 0) _ rfl HO.out.1 Tryz.underlying27 rfl Tryz.sizeRat) rfl ?_
          exact ParsRes.of (Z := (Y, L)) (HA.out.1 hoks) hoks rfl HO.out.2.1 HO.out.2.2
        · have hq := str_ne hf
          have HO := hide (ret_rat0 (F := 3) kr7 hb7' (Nat.le_refl _))
          obtain ⟨z0, z1, z2, z3, z4, z5⟩ := (kr7).facts3
          clear kr7 hb7' p7 kq7
          go_wp2_with fail
          refine bodyPost_ret (results_cell_tmp rfl _ _ w.heap.size _ #[.bool false, .slice none 0 0, .slice none 0 0] (0, 0) _ rfl HO.out.1 Tryz.underlying27 rfl Tryz.sizeRat) rfl ?_
          exact pars_no (HA.out.2.2.2.1 hf) rfl HO.out.2.1 HO.out.2.2
  · clear HH
    obtain ⟨n, hn⟩ : ∃ n, n = r.length + 2 := ⟨_, rfl⟩
    have q2 : w1.ownsRow W0.heap.size 9 1 v n (sv (H :: X1 :: r)) := by rw [hsp] at q1; rw [hn]; exact q1
    clear q1 hsp hb1
    obtain ⟨A0, c0, rfl, g1, g2, hrd⟩ := own_reads q2
    have HRD := hide hrd
    clear g1 g2 hrd
    obtain ⟨ad, rfl, hab, hac⟩ := HRD.out.str (k := 0) (by simp)
    have hac : w1.cell? (ad.add 0) = some (.string H) := hac
    have hac2 := hac
    rw [add_zero'] at hac2
    have hlen : (1 : Int) < (n : Int) := by omega
    have h0n : 0 < n := by omega
    clear hn
    have hd : X1.size ≤ 1048576 := by omega
    have HC2 := hide (fun (W : World) => spec_ParseNat W W.heap.size (Nat.le_refl _) X1 hd)
    have HA := hide hA0
    have HE := hide (asks_fine hA0)
    clear hA0 hx hd
    generalize parseL X1 = L at *
    generalize parseB X1 = pb at *
    go_wp2_with fail
    refine (HC1.out w1).mono ?_
    rintro e w2 ⟨v1, rfl, o1, hb2⟩
    obtain ⟨A1, c1, rfl⟩ := o1.form
    obtain ⟨ad', e1, hab1, hac1⟩ := HRD.out.str (k := 1) (by simp)
    obtain rfl : ad = ad' := Option.some.inj e1
    have hac1 : w1.cell? (ad.add 1) = some (.string X1) := hac1
    have hac1 := (hb2.cell (p := ad.add 1) hab1).trans hac1
    have hab1 : (ad.add 1).block < w2.heap.size := Nat.lt_of_lt_of_le hab1 hb2.size
    clear hac hac2 e1
    have kr2 := kr1.below hb2 kr1.lt
    have hs2 := hb2.size
    have hb2' := below_then hb1' hb2
    have kx2 := Box.last w2 25 #[.bool Y.1, .slice A1 Y.2.length c1] rfl
    have hb3' := below_alloc hb2' (.cells #[.bool Y.1, .slice A1 Y.2.length c1] 25)
    have kr3 := kr2.alloc (.cells #[.bool Y.1, .slice A1 Y.2.length c1] 25)
    have o3 := o1.below (below_new w2 (.cells #[.bool Y.1, .slice A1 Y.2.length c1] 25)) (Nat.le_refl _)
    have hs3 : (w2.alloc (.cells #[.bool Y.1, .slice A1 Y.2.length c1] 25)).heap.size = w2.heap.size + 1 := alloc_size _ _
    obtain ⟨W3, hW3⟩ : ∃ W3, W3 = w2.alloc (.cells #[.bool Y.1, .slice A1 Y.2.length c1] 25) := ⟨_, rfl⟩
    rw [← hW3] at kx2 hb3' kr3 o3 hs3
    clear kr1 kr2 hb1' hb2 o1 hb2'
    have hbM := below_new w2 (.cells #[.bool Y.1, .slice A1 Y.2.length c1] 25)
    rw [← hW3] at hbM
    have hac1 := (hbM.cell (p := ad.add 1) hab1).trans hac1
    have hbN := below_new W3 (.cells #[.int .i64 1] 3)
    have hac1 := (hbN.cell (p := ad.add 1) (by omega)).trans hac1
    have kr3 := kr3.alloc (.cells #[.int .i64 1] 3)
    have kx2 := kx2.alloc (.cells #[.int .i64 1] 3)
    have hb3' := below_alloc hb3' (.cells #[.int .i64 1] 3)
    have o3 := o3.below hbN (by omega)
    have hsN := alloc_size W3 (.cells #[.int .i64 1] 3)
    obtain ⟨WN, hWN⟩ : ∃ WN, WN = W3.alloc (.cells #[.int .i64 1] 3) := ⟨_, rfl⟩
    rw [← hWN] at kr3 kx2 hb3' o3 hsN hac1
    have hac1 : WN.cell? { block := ad.block, off := ad.off + 1, spot := none } = some (.string X1) := hac1
    clear hbN hbM
    go_upto_region 6 with fail
    rw [← hW3, ← hWN]
    clear hW3 hWN
    go_wp2_with fail
    refine (HC2.out WN).mono ?_
    rintro e w4 ⟨v2, rfl, row4, hb4⟩
    have o4 := Own.of_row row4 (Nat.le_refl _)
    obtain ⟨A2, c2, rfl⟩ := o4.form
    clear HC1 HC2 HRD row4 hac1
    have hs4 := hb4.size
    have kr4 := kr3.below hb4 kr3.lt
    have kx4 := kx2.below hb4 kx2.lt
    have hb4' := below_then hb3' hb4
    have p4 := Pair.of o3 o4 hb4 (by omega) (show w1.heap.size ≤ _ by omega)
    obtain ⟨x0, x1⟩ := kx4.cells2
    have kq5 := Box.last w4 27 #[.bool Y.1, .slice A1 Y.2.length c1, .slice A2 L.length c2] rfl
    have kr5 := kr4.alloc (.cells #[.bool Y.1, .slice A1 Y.2.length c1, .slice A2 L.length c2] 27)
    have hb5' := below_alloc hb4' (.cells #[.bool Y.1, .slice A1 Y.2.length c1, .slice A2 L.length c2] 27)
    have p5 := p4.below (below_new w4 (.cells #[.bool Y.1, .slice A1 Y.2.length c1, .slice A2 L.length c2] 27))
    have hs5 : (w4.alloc (.cells #[.bool Y.1, .slice A1 Y.2.length c1, .slice A2 L.length c2] 27)).heap.size = w4.heap.size + 1 := alloc_size _ _
    obtain ⟨W5, hW5⟩ : ∃ W5, W5 = w4.alloc (.cells #[.bool Y.1, .slice A1 Y.2.length c1, .slice A2 L.length c2] 27) := ⟨_, rfl⟩
    rw [← hW5] at kq5 kr5 hb5' p5 hs5
    clear kr3 kx2 hb3' o3 o4 hb4 kr4 kx4 hb4' p4
    go_upto_region 8 with fail
    rw [← hW5]
    clear hW5 x0 x1
    cases zb
    · have HO := hide (ret_rat0 (F := 3) kr5 hb5' (Nat.le_refl _))
      obtain ⟨z0, z1, z2, z3, z4, z5⟩ := (kr5).facts3
      clear kr5 hb5' p5 kq5
      go_wp2_with fail
      refine bodyPost_ret (results_cell_tmp rfl _ _ w.heap.size _ #[.bool false, .slice none 0 0, .slice none 0 0] (0, 0) _ rfl HO.out.1 Tryz.underlying27 rfl Tryz.sizeRat) rfl ?_
      exact pars_no (HA.out.2.1 rfl) rfl HO.out.2.1 HO.out.2.2
    · cases pb
      · have HO := hide (ret_rat0 (F := 3) kr5 hb5' (Nat.le_refl _))
        obtain ⟨z0, z1, z2, z3, z4, z5⟩ := (kr5).facts3
        clear kr5 hb5' p5 kq5
        go_wp2_with fail
        refine bodyPost_ret (results_cell_tmp rfl _ _ w.heap.size _ #[.bool false, .slice none 0 0, .slice none 0 0] (0, 0) _ rfl HO.out.1 Tryz.underlying27 rfl Tryz.sizeRat) rfl ?_
        exact pars_no (HA.out.2.2.1 rfl) rfl HO.out.2.1 HO.out.2.2
      · obtain ⟨q1, q2⟩ := p5.rd
        have R1 := pair_rdI q1 rfl HA.out.2.2.2.2.2.2.2.1 HA.out.2.2.2.2.2.1
        have R2 := pair_rdI q2 rfl HA.out.2.2.2.2.2.2.2.2 HA.out.2.2.2.2.2.2.1
        have HF := hide (spec_FormatRat W5 W5.heap.size (Nat.le_refl _) Y.1 A1 _ c1 Y.2 R1 A2 _ c2 L R2)
        obtain ⟨a0, a1, a2⟩ := kq5.cells3
        clear q1 q2 R1 R2
        go_wp2_with fail
        refine HF.out.mono ?_
        rintro e w6 ⟨rfl, hb6⟩
        have kr6 := kr5.below hb6 kr5.lt
        have kq6 := kq5.below hb6 kq5.lt
        have hs6 := hb6.size
        have hb6' := below_then hb5' hb6
        have p6 := p5.below hb6
        clear a0 a1 a2 HF
        by_cases he : fmtR Y.1 Y.2 L = ⟨#[]⟩
        · have hq0 := str_nil he
          have hq1 := str_nilE he
          have hf : okRB s = false := HE.out he
          have HO := hide (ret_rat0 (F := 3) kr6 hb6' (Nat.le_refl _))
          obtain ⟨z0, z1, z2, z3, z4, z5⟩ := (kr6).facts3
          clear kr6 hb6' p6 kq6 kr5 p5 hb5' kq5 hb6
          go_wp2_with fail
          refine bodyPost_ret (results_cell_tmp rfl _ _ w.heap.size _ #[.bool false, .slice none 0 0, .slice none 0 0] (0, 0) _ rfl HO.out.1 Tryz.underlying27 rfl Tryz.sizeRat) rfl ?_
          exact pars_no hf rfl HO.out.2.1 HO.out.2.2
        · have hq0 := str_some he
          have hq1 := str_someE he
          obtain ⟨q1, q2⟩ := p6.rd
          have R1 := pair_rdI q1 rfl HA.out.2.2.2.2.2.2.2.1 HA.out.2.2.2.2.2.1
          have R2 := pair_rdI q2 rfl HA.out.2.2.2.2.2.2.2.2 HA.out.2.2.2.2.2.2.1
          have HF := hide (spec_FormatRat w6 w6.heap.size (Nat.le_refl _) Y.1 A1 _ c1 Y.2 R1 A2 _ c2 L R2)
          obtain ⟨a0, a1, a2⟩ := kq6.cells3
          clear q1 q2 R1 R2 kr5 p5 hb5' kq5 hb6
          go_wp2_with fail
          refine HF.out.mono ?_
          rintro e w7 ⟨rfl, hb7⟩
          have kr7 := kr6.below hb7 kr6.lt
          have kq7 := kq6.below hb7 kq6.lt
          have hs7 := hb7.size
          have hb7' := below_then hb6' hb7
          have p7 := p6.below hb7
          clear a0 a1 a2 HF kr6 kq6 hb6' p6 hb7
          by_cases hf : fmtR Y.1 Y.2 L = s
          · have hq := str_eq hf
            have HO := hide (ret_rat kr7 p7 hb7' (x := Y.1) (Nat.le_refl _) (by omega))
            obtain ⟨a0, a1, a2⟩ := kq7.cells3
            obtain ⟨z0, z1, z2, z3, z4, z5⟩ := kr7.facts3
            clear kr7 p7 hb7' kq7
            have hoks := HA.out.2.2.2.2.1 rfl rfl hf
            go_wp2_with fail
            refine bodyPost_ret (results_cell_tmp rfl _ _ w.heap.size _ #[.bool Y.1, .slice A1 Y.2.length c1, .slice A2 L.length c2] (0, 0) _ rfl HO.out.1 Tryz.underlying27 rfl Tryz.sizeRat) rfl ?_
            exact ParsRes.of (Z := (Y, L)) (HA.out.1 hoks) hoks rfl HO.out.2.1 HO.out.2.2
          · have hq := str_ne hf
            have HO := hide (ret_rat0 (F := 3) kr7 hb7' (Nat.le_refl _))
            obtain ⟨z0, z1, z2, z3, z4, z5⟩ := (kr7).facts3
            clear kr7 hb7' p7 kq7
            go_wp2_with fail
            refine bodyPost_ret (results_cell_tmp rfl _ _ w.heap.size _ #[.bool false, .slice none 0 0, .slice none 0 0] (0, 0) _ rfl HO.out.1 Tryz.underlying27 rfl Tryz.sizeRat) rfl ?_
            exact pars_no (HA.out.2.2.2.1 hf) rfl HO.out.2.1 HO.out.2.2
end Go.Proofs.YtnbaookdeijhhaaGreatDoor
