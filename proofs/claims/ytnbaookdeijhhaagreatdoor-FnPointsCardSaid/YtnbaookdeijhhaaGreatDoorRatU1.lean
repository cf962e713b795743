/-
  Fractions as text: ParseRat: the program.
-/
import Derived.Test.YtnbaookdeijhhaaGreatDoorUT
import Derived.Test.YtnbaookdeijhhaaGreatDoorRatS
import Derived.Test.YtnbaookdeijhhaaGreatDoorDG
import Derived.Deep.CutRange
namespace Go.Proofs.YtnbaookdeijhhaaGreatDoor
open Go.RowKit
set_option linter.unusedVariables false
set_option maxRecDepth 100000 in
set_option maxHeartbeats 6400000 in
theorem impl_ParseRat (w : World) (B : Nat) (hB : B ≤ w.heap.size) (s : ByteArray) (hm : s.size ≤ 1048576) (hPT : PowTab w) (ml : Int) (hML : w.cell? ⟨0, 0, none⟩ = some (.int .i64 ml)) (hg0 : 0 < w.heap.size) :
    Calls Tryz.prog 8 #[.string s] w fun e w' => ParsRes 3 w w' e s := by
  obtain ⟨W0, hW0⟩ : ∃ W0, W0 = (w.alloc (.cells #[.bool false, .slice none 0 0, .slice none 0 0] 27)) := ⟨_, rfl⟩
  have hb0 : Below w.heap.size w W0 := by rw [hW0]; exact below_new _ _
  have kr : Box W0 (w.heap.size) 27 #[.bool false, .slice none 0 0, .slice none 0 0] := by rw [hW0]; exact Box.last _ _ _ rfl
  have hs0 : W0.heap.size = w.heap.size + 1 := by rw [hW0, alloc_size]
  have hh : (headB s).size ≤ 1048576 := by have := (head_le s).1; omega
  have hd : (denS s).size ≤ 1048576 := by unfold denS; split; (have := (head_le s).2; omega); (show 1 ≤ _; omega)
  have hml0 : W0.cell? ⟨0, 0, none⟩ = some (.int .i64 ml) := (hb0.cell hg0).trans hML
  have HCUT : Hid (Calls Tryz.prog 39 #[.string s, .string ⟨#[47]⟩] W0 fun e w' => e = .returned (.tuple #[.string (headB s), .string (tailB s), .bool (hasB s)]) ∧ ∃ n, w' = W0.drewN n) := Tryz.strings_Cut s ⟨#[47]⟩ ml W0 (by omega) hml0
  have HDE : denS s = if hasB s then tailB s else ⟨#[49]⟩ := rfl
  have HA := hide (asks_cut s)
  clear hml0 hML
  generalize denS s = D at *
  have HC1 := hide (fun (W : World) => impl_ParseBigInt W W.heap.size (Nat.le_refl _) (headB s) hh)
  have HC2 := hide (fun (W : World) => impl_ParseNat W W.heap.size (Nat.le_refl _) D hd)
  generalize parseZ (headB s) = Y at *
  generalize parseZB (headB s) = zb at *
  generalize parseL D = L at *
  generalize parseB D = pb at *
  generalize headB s = H at *
  generalize tailB s = TL at *
  clear hh hd
  go_enter Tryz.func8, Tryz.ntmps8
  go_upto_region 1 with fail
  rw [← hW0]
  clear hW0
  go_wp2_with fail
  refine HCUT.out.mono ?_
  rintro e w1 ⟨rfl, nd, rfl⟩
  obtain ⟨w1, hw1⟩ : ∃ w1, w1 = W0.drewN nd := ⟨_, rfl⟩
  have hb1' : Below w.heap.size w w1 := by rw [hw1]; exact below_drewNT hb0 nd
  have kr1 : Box w1 (w.heap.size) 27 #[.bool false, .slice none 0 0, .slice none 0 0] := by rw [hw1]; exact kr
  have hs1 : w1.heap.size = w.heap.size + 1 := by rw [hw1]; exact hs0
  rw [← hw1]
  clear HCUT kr hb0 hs0 hw1
  cases hh : hasB s
  · rw [hh] at HDE
    obtain rfl : D = ⟨#[49]⟩ := HDE
    go_wp2_with fail
    refine (HC1.out w1).mono ?_
    rintro e w2 ⟨v1, rfl, o1, hb2⟩
    obtain ⟨A1, c1, rfl⟩ := o1.form
    have kr2 := kr1.below hb2 kr1.lt
    have hs2 := hb2.size
    have hb2' := below_then hb1' hb2
    have kx2 := Box.last w2 25 #[.bool Y.1, .slice A1 Y.2.length c1] rfl
    have hb3' := below_alloc hb2' (.cells #[.bool Y.1, .slice A1 Y.2.length c1] 25)
    have kr3 := kr2.alloc (.cells #[.bool Y.1, .slice A1 Y.2.length c1] 25)
    have o3 := o1.below (below_new w2 (.cells #[.bool Y.1, .slice A1 Y.2.length c1] 25)) (Nat.le_refl _)
    have hs3 : (w2.alloc (.cells #[.bool Y.1, .slice A1 Y.2.length c1] 25)).heap.size = w2.heap.size + 1 := alloc_size _ _
    obtain ⟨W3, hW3⟩ : ∃ W3, W3 = w2.alloc (.cells #[.bool Y.1, .slice A1 Y.2.length c1] 25) := ⟨_, rfl⟩
    rw [← hW3] at kx2 hb3' kr3 o3 hs3
    clear kr1 kr2 hb1' hb2 o1 hb2'
    go_wp2_with fail
    rw [← hW3]
    refine (HC2.out W3).mono ?_
    rintro e w4 ⟨v2, rfl, o4, hb4⟩
    obtain ⟨A2, c2, rfl⟩ := o4.form
    clear hW3 HC1 HC2
    have hs4 := hb4.size
    have kr4 := kr3.below hb4 kr3.lt
    have kx4 := kx2.below hb4 kx2.lt
    have hb4' := below_then hb3' hb4
    have p4 := Pair.of o3 o4 hb4 (by omega) (show w1.heap.size ≤ _ by omega)
    obtain ⟨x0, x1⟩ := kx4.cells2
    have kq5 := Box.last w4 27 #[.bool Y.1, .slice A1 Y.2.length c1, .slice A2 L.length c2] rfl
    have kr5 := kr4.alloc (.cells #[.bool Y.1, .slice A1 Y.2.length c1, .slice A2 L.length c2] 27)
    have hb5' := below_alloc hb4' (.cells #[.bool Y.1, .slice A1 Y.2.length c1, .slice A2 L.length c2] 27)
    have p5 := p4.below (below_new w4 (.cells #[.bool Y.1, .slice A1 Y.2.length c1, .slice A2 L.length c2] 27))
    have hs5 : (w4.alloc (.cells #[.bool Y.1, .slice A1 Y.2.length c1, .slice A2 L.length c2] 27)).heap.size = w4.heap.size + 1 := alloc_size _ _
    obtain ⟨W5, hW5⟩ : ∃ W5, W5 = w4.alloc (.cells #[.bool Y.1, .slice A1 Y.2.length c1, .slice A2 L.length c2] 27) := ⟨_, rfl⟩
    rw [← hW5] at kq5 kr5 hb5' p5 hs5
    clear kr3 kx2 hb3' o3 o4 hb4 kr4 kx4 hb4' p4
    go_upto_region 7 with fail
    rw [← hW5]
    clear hW5 x0 x1
    cases zb
    · have HO := hide (ret_rat0 (F := 3) kr5 hb5' (Nat.le_refl _))
      obtain ⟨z0, z1, z2, z3, z4, z5⟩ := (kr5).facts3
      clear kr5 hb5' p5 kq5
      go_wp2_with fail
      refine bodyPost_ret (results_cell_tmp rfl _ _ w.heap.size _ #[.bool false, .slice none 0 0, .slice none 0 0] (0, 0) _ rfl HO.out.1 Tryz.underlying27 rfl Tryz.sizeRat) rfl ?_
      exact pars_no (HA.out.2.1 rfl) rfl HO.out.2.1 HO.out.2.2
    · cases pb
      · have HO := hide (ret_rat0 (F := 3) kr5 hb5' (Nat.le_refl _))
        obtain ⟨z0, z1, z2, z3, z4, z5⟩ := (kr5).facts3
        clear kr5 hb5' p5 kq5
        go_wp2_with fail
        refine bodyPost_ret (results_cell_tmp rfl _ _ w.heap.size _ #[.bool false, .slice none 0 0, .slice none 0 0] (0, 0) _ rfl HO.out.1 Tryz.underlying27 rfl Tryz.sizeRat) rfl ?_
        exact pars_no (HA.out.2.2.1 rfl) rfl HO.out.2.1 HO.out.2.2
      · obtain ⟨q1, q2⟩ := p5.rd
        have R1 := pair_rdI q1 rfl HA.out.2.2.2.2.2.2.2.1 HA.out.2.2.2.2.2.1
        have R2 := pair_rdI q2 rfl HA.out.2.2.2.2.2.2.2.2 HA.out.2.2.2.2.2.2.1
        have HF := hide (impl_FormatRat W5 W5.heap.size (Nat.le_refl _) Y.1 A1 _ c1 Y.2 R1 A2 _ c2 L R2 (hPT.below hb5' hPT.lt))
        obtain ⟨a0, a1, a2⟩ := kq5.cells3
        clear q1 q2 R1 R2
        go_wp2_with fail
        refine HF.out.mono ?_
        rintro e w6 ⟨rfl, hb6⟩
        have kr6 := kr5.below hb6 kr5.lt
        have kq6 := kq5.below hb6 kq5.lt
        have hs6 := hb6.size
        have hb6' := below_then hb5' hb6
        have p6 := p5.below hb6
        clear a0 a1 a2 HF
        by_cases hf : fmtR Y.1 Y.2 L = s
        · have hq := str_eq hf
          have HO := hide (ret_rat kr6 p6 hb6' (x := Y.1) (Nat.le_refl _) (by omega))
          obtain ⟨a0, a1, a2⟩ := kq6.cells3
          obtain ⟨z0, z1, z2, z3, z4, z5⟩ := kr6.facts3
          clear kr6 p6 hb6' kq6 kr5 p5 hb5' kq5 hb6
          have hoks := HA.out.2.2.2.2.1 rfl rfl hf
          go_wp2_with fail
          refine bodyPost_ret (results_cell_tmp rfl _ _ w.heap.size _ #[.bool Y.1, .slice A1 Y.2.length c1, .slice A2 L.length c2] (0, 0) _ rfl HO.out.1 Tryz.underlying27 rfl Tryz.sizeRat) rfl ?_
          exact ParsRes.of (Z := (Y, L)) (HA.out.1 hoks) hoks rfl HO.out.2.1 HO.out.2.2
        · have hq := str_ne hf
          have HO := hide (ret_rat0 (F := 3) kr6 hb6' (Nat.le_refl _))
          obtain ⟨z0, z1, z2, z3, z4, z5⟩ := (kr6).facts3
          clear kr6 hb6' p6 kq6 kr5 p5 hb5' kq5 hb6
          go_wp2_with fail
          refine bodyPost_ret (results_cell_tmp rfl _ _ w.heap.size _ #[.bool false, .slice none 0 0, .slice none 0 0] (0, 0) _ rfl HO.out.1 Tryz.underlying27 rfl Tryz.sizeRat) rfl ?_
          exact pars_no (HA.out.2.2.2.1 hf) rfl HO.out.2.1 HO.out.2.2
  · rw [hh] at HDE
    obtain rfl : D = TL := HDE
    go_wp2_with fail
    refine (HC1.out w1).mono ?_
    rintro e w2 ⟨v1, rfl, o1, hb2⟩
    obtain ⟨A1, c1, rfl⟩ := o1.form
    have kr2 := kr1.below hb2 kr1.lt
    have hs2 := hb2.size
    have hb2' := below_then hb1' hb2
    have kx2 := Box.last w2 25 #[.bool Y.1, .slice A1 Y.2.length c1] rfl
    have hb3' := below_alloc hb2' (.cells #[.bool Y.1, .slice A1 Y.2.length c1] 25)
    have kr3 := kr2.alloc (.cells #[.bool Y.1, .slice A1 Y.2.length c1] 25)
    have o3 := o1.below (below_new w2 (.cells #[.bool Y.1, .slice A1 Y.2.length c1] 25)) (Nat.le_refl _)
    have hs3 : (w2.alloc (.cells #[.bool Y.1, .slice A1 Y.2.length c1] 25)).heap.size = w2.heap.size + 1 := alloc_size _ _
    obtain ⟨W3, hW3⟩ : ∃ W3, W3 = w2.alloc (.cells #[.bool Y.1, .slice A1 Y.2.length c1] 25) := ⟨_, rfl⟩
    rw [← hW3] at kx2 hb3' kr3 o3 hs3
    clear kr1 kr2 hb1' hb2 o1 hb2'
    go_wp2_with fail
    rw [← hW3]
    refine (HC2.out W3).mono ?_
    rintro e w4 ⟨v2, rfl, o4, hb4⟩
    obtain ⟨A2, c2, rfl⟩ := o4.form
    clear hW3 HC1 HC2
    have hs4 := hb4.size
    have kr4 := kr3.below hb4 kr3.lt
    have kx4 := kx2.below hb4 kx2.lt
    have hb4' := below_then hb3' hb4
    have p4 := Pair.of o3 o4 hb4 (by omega) (show w1.heap.size ≤ _ by omega)
    obtain ⟨x0, x1⟩ := kx4.cells2
    have kq5 := Box.last w4 27 #[.bool Y.1, .slice A1 Y.2.length c1, .slice A2 L.length c2] rfl
    have kr5 := kr4.alloc (.cells #[.bool Y.1, .slice A1 Y.2.length c1, .slice A2 L.length c2] 27)
    have hb5' := below_alloc hb4' (.cells #[.bool Y.1, .slice A1 Y.2.length c1, .slice A2 L.length c2] 27)
    have p5 := p4.below (below_new w4 (.cells #[.bool Y.1, .slice A1 Y.2.length c1, .slice A2 L.length c2] 27))
    have hs5 : (w4.alloc (.cells #[.bool Y.1, .slice A1 Y.2.length c1, .slice A2 L.length c2] 27)).heap.size = w4.heap.size + 1 := alloc_size _ _
    obtain ⟨W5, hW5⟩ : ∃ W5, W5 = w4.alloc (.cells #[.bool Y.1, .slice A1 Y.2.length c1, .slice A2 L.length c2] 27) := ⟨_, rfl⟩
    rw [← hW5] at kq5 kr5 hb5' p5 hs5
    clear kr3 kx2 hb3' o3 o4 hb4 kr4 kx4 hb4' p4
    go_upto_region 7 with fail
    rw [← hW5]
    clear hW5 x0 x1
    cases zb
    · have HO := hide (ret_rat0 (F := 3) kr5 hb5' (Nat.le_refl _))
      obtain ⟨z0, z1, z2, z3, z4, z5⟩ := (kr5).facts3
      clear kr5 hb5' p5 kq5
      go_wp2_with fail
      refine bodyPost_ret (results_cell_tmp rfl _ _ w.heap.size _ #[.bool false, .slice none 0 0, .slice none 0 0] (0, 0) _ rfl HO.out.1 Tryz.underlying27 rfl Tryz.sizeRat) rfl ?_
      exact pars_no (HA.out.2.1 rfl) rfl HO.out.2.1 HO.out.2.2
    · cases pb
      · have HO := hide (ret_rat0 (F := 3) kr5 hb5' (Nat.le_refl _))
        obtain ⟨z0, z1, z2, z3, z4, z5⟩ := (kr5).facts3
        clear kr5 hb5' p5 kq5
        go_wp2_with fail
        refine bodyPost_ret (results_cell_tmp rfl _ _ w.heap.size _ #[.bool false, .slice none 0 0, .slice none 0 0] (0, 0) _ rfl HO.out.1 Tryz.underlying27 rfl Tryz.sizeRat) rfl ?_
        exact pars_no (HA.out.2.2.1 rfl) rfl HO.out.2.1 HO.out.2.2
      · obtain ⟨q1, q2⟩ := p5.rd
        have R1 := pair_rdI q1 rfl HA.out.2.2.2.2.2.2.2.1 HA.out.2.2.2.2.2.1
        have R2 := pair_rdI q2 rfl HA.out.2.2.2.2.2.2.2.2 HA.out.2.2.2.2.2.2.1
        have HF := hide (impl_FormatRat W5 W5.heap.size (Nat.le_refl _) Y.1 A1 _ c1 Y.2 R1 A2 _ c2 L R2 (hPT.below hb5' hPT.lt))
        obtain ⟨a0, a1, a2⟩ := kq5.cells3
        clear q1 q2 R1 R2
        go_wp2_with fail
        refine HF.out.mono ?_
        rintro e w6 ⟨rfl, hb6⟩
        have kr6 := kr5.below hb6 kr5.lt
        have kq6 := kq5.below hb6 kq5.lt
        have hs6 := hb6.size
        have hb6' := below_then hb5' hb6
        have p6 := p5.below hb6
        clear a0 a1 a2 HF
        by_cases hf : fmtR Y.1 Y.2 L = s
        · have hq := str_eq hf
          have HO := hide (ret_rat kr6 p6 hb6' (x := Y.1) (Nat.le_refl _) (by omega))
          obtain ⟨a0, a1, a2⟩ := kq6.cells3
          obtain ⟨z0, z1, z2, z3, z4, z5⟩ := kr6.facts3
          clear kr6 p6 hb6' kq6 kr5 p5 hb5' kq5 hb6
          have hoks := HA.out.2.2.2.2.1 rfl rfl hf
          go_wp2_with fail
          refine bodyPost_ret (results_cell_tmp rfl _ _ w.heap.size _ #[.bool Y.1, .slice A1 Y.2.length c1, .slice A2 L.length c2] (0, 0) _ rfl HO.out.1 Tryz.underlying27 rfl Tryz.sizeRat) rfl ?_
          exact ParsRes.of (Z := (Y, L)) (HA.out.1 hoks) hoks rfl HO.out.2.1 HO.out.2.2
        · have hq := str_ne hf
          have HO := hide (ret_rat0 (F := 3) kr6 hb6' (Nat.le_refl _))
          obtain ⟨z0, z1, z2, z3, z4, z5⟩ := (kr6).facts3
          clear kr6 hb6' p6 kq6 kr5 p5 hb5' kq5 hb6
          go_wp2_with fail
          refine bodyPost_ret (results_cell_tmp rfl _ _ w.heap.size _ #[.bool false, .slice none 0 0, .slice none 0 0] (0, 0) _ rfl HO.out.1 Tryz.underlying27 rfl Tryz.sizeRat) rfl ?_
          exact pars_no (HA.out.2.2.2.1 hf) rfl HO.out.2.1 HO.out.2.2
end Go.Proofs.YtnbaookdeijhhaaGreatDoor
