/-
  The program's sums of polygons: contracts: sumOf, MovePolygon of valid corners, MoveToOrigin.
-/
import Derived.Test.YtdagomikjblgiaaGreatSP
import Derived.Test.YtdagomikjblgiaaGreatPolI
import Derived.Test.YtdagomikjblgiaaGreatLB
import Derived.Test.YtdagomikjblgiaaGreatPolI3
namespace Go.Proofs.YtdagomikjblgiaaGreat
open Go.RowKit
set_option linter.unusedVariables false
theorem impl_sumOf (w : World) (x y u v : Int) (h1 : vecB x y = true) (h2 : vecB u v = true) :
    Calls Tryz.prog 18 #[.agg #[.int .i64 x, .int .i64 y], .agg #[.int .i64 u, .int .i64 v]] w fun e w' => e = .returned (.agg #[.int .i64 (x + u), .int .i64 (y + v)]) ∧ Below w.heap.size w w' := by
  have g1 := vecB_bounds h1
  have g2 := vecB_bounds h2
  clear h1 h2
  go_enter Tryz.func18, Tryz.ntmps18
  go_wp2_with fail
  refine bodyPost_ret (results_cell_row rfl _ _ (w.heap.size + 2) _ #[.int .i64 (x + u), .int .i64 (y + v)] (0, 0) _ rfl (show Box _ _ 26 #[.int .i64 (x + u), .int .i64 (y + v)] from Box.last _ _ _ (by rw [alloc_size, alloc_size])) Tryz.underlying26 rfl Tryz.sizeVec) rfl ?_
  exact ⟨rfl, below_alloc (below_alloc (below_new _ _) _) _⟩
set_option maxHeartbeats 1600000 in
theorem impl_move1 (w : World) (gv : Nat) (x y u v : Int) (h1 : vecB x y = true) (h2 : vecB u v = true) (kv : Box w gv 26 #[.int .i64 u, .int .i64 v]) :
    Calls Tryz.prog 17 #[.agg #[.int .i64 x, .int .i64 y], .pointer (some ⟨gv, 0, none⟩)] w fun e w' => e = .returned (.agg #[.int .i64 (x + u), .int .i64 (y + v)]) ∧ Below w.heap.size w w' := by
  have HS := hide (fun (W : World) => impl_sumOf W x y u v h1 h2)
  obtain ⟨W0, hW0⟩ : ∃ W0, W0 = (w.alloc (.cells #[.int .i64 x, .int .i64 y] 26)).alloc (.cells #[.int .i64 0, .int .i64 0] 26) := ⟨_, rfl⟩
  have hT0 : Below w.heap.size w W0 := by rw [hW0]; exact below_alloc (below_new _ _) _
  have kx : Box W0 w.heap.size 26 #[.int .i64 x, .int .i64 y] := by rw [hW0]; exact (Box.last _ _ _ rfl).alloc _
  have kr : Box W0 (w.heap.size + 1) 26 #[.int .i64 0, .int .i64 0] := by rw [hW0]; exact Box.last _ _ _ (alloc_size _ _).symm
  have kv0 : Box W0 gv 26 #[.int .i64 u, .int .i64 v] := by rw [hW0]; exact (kv.alloc _).alloc _
  clear kv h1 h2
  generalize x + u = s at *
  generalize y + v = t at *
  go_enter Tryz.func17, Tryz.ntmps17
  go_upto_region 1 with fail
  rw [← hW0]
  clear hW0
  obtain ⟨x0, x1⟩ := kx.cells2
  obtain ⟨v0, v1⟩ := kv0.cells2
  clear kx kv0
  go_wp2_with fail
  refine (HS.out _).mono ?_
  rintro e w1 ⟨rfl, hb1⟩
  have kr1 := kr.below hb1 kr.lt
  have HKR := hide kr1
  obtain ⟨r0, r1, r2, r3⟩ := kr1.facts
  have hT1 := below_then hT0 hb1
  clear HS kr kr1 x0 x1 v0 v1 hb1
  go_wp2_with fail
  refine bodyPost_ret (results_cell_row rfl _ _ (w.heap.size + 1) _ #[.int .i64 s, .int .i64 t] (0, 0) _ rfl (show Box _ _ 26 #[.int .i64 s, .int .i64 t] from HKR.out.set2 _ _) Tryz.underlying26 rfl Tryz.sizeVec) rfl ?_
  exact ⟨rfl, below_set2 hT1 (Nat.le_succ _) _ _⟩
theorem map_add_wf {l : List V2} (hl : allV l = true) {v : V2} (hv : vecV v = true) : wfV (l.map fun p => addV p v) := fun x hx => by
  obtain ⟨p, hp, rfl⟩ := List.mem_map.1 hx
  have h1 := vecB_bounds (List.all_eq_true.1 hl p hp)
  have h2 := vecB_bounds hv
  unfold addV
  exact ⟨WalkArith.wf_i64 ⟨by simp only; omega, by simp only; omega⟩, WalkArith.wf_i64 ⟨by simp only; omega, by simp only; omega⟩⟩
set_option maxRecDepth 100000 in
set_option maxHeartbeats 1600000 in
theorem impl_changedMove (w : World) (B : Nat) (hB : B ≤ w.heap.size) (A : Option Addr) (n c : Nat) (l : List V2) (R : RdV w B A n l) (hV : allV l = true) (v : V2) (hv : vecV v = true) (gv : Nat) (kv : Box w gv 26 #[.int .i64 v.1, .int .i64 v.2]) :
    Calls Tryz.prog 16 #[.slice A n c, .func (.func 17) #[] #[.pointer (some ⟨gv, 0, none⟩)]] w fun e w' => ∃ r, e = .returned r ∧ OwnV w' w.heap.size w'.heap.size 26 r (mvL l v).length (mvL l v) ∧ Below w.heap.size w w' := by
  obtain ⟨hn, hx, hl, hwf⟩ := R
  obtain ⟨w0, hmk, hown0, hb0⟩ := Tryz.make0V w n hl
  have HK := hide kv
  have hgv := kv.lt
  clear kv
  go_enter Tryz.func16, Tryz.ntmps16
  go_wp2_with fail
  go_loopw [5, 13] (fun r i wr => ∃ k : Nat, k ≤ n ∧ i = .int .i64 k ∧ wr.ownsRow w.heap.size 26 2 r k (fl ((l.take k).map fun p => addV p v)) ∧ Below w.heap.size w wr) (fun _ i _ => n - (intOf i).toNat)
  case atStart => exact ⟨0, Nat.zero_le _, rfl, by simpa [fl] using hown0, hb0⟩
  case round =>
    clear hown0 hb0 hmk
    obtain ⟨k, hk, rfl, hown, hbel⟩ := hrel
    by_cases hlt : k < n
    · obtain ⟨ad, hA, hb1, hc1, hc2⟩ := (hx.below (hbel.mono hB)).vec (k := k) (by omega)
      have hkl : k < l.length := by omega
      have HV := hide (fun (W : World) (hb : Below w.heap.size w W) => impl_move1 W gv l[k].1 l[k].2 v.1 v.2 (List.all_eq_true.1 hV l[k] (List.getElem_mem hkl)) hv (HK.out.below hb hgv))
      have HM := hide (map_take_snoc (fun p => addV p v) hkl)
      have HM2 : Hid (addV l[k] v = (l[k].1 + v.1, l[k].2 + v.2)) := rfl
      have hbs := hbel.size
      generalize l[k].1 + v.1 = x1 at *
      generalize l[k].2 + v.2 = y1 at *
      generalize l[k].1 = x0 at *
      generalize l[k].2 = y0 at *
      obtain ⟨W0, hW0⟩ : ∃ W0, W0 = wr.alloc (.cells #[.int .i64 x0, .int .i64 y0] 26) := ⟨_, rfl⟩
      have ka : Box W0 wr.heap.size 26 #[.int .i64 x0, .int .i64 y0] := by rw [hW0]; exact Box.last _ _ _ rfl
      have hT : Below wr.heap.size wr W0 := by rw [hW0]; exact below_new _ _
      subst hA
      go_upto_region 5 with fail
      rw [← hW0]
      clear hW0 hc1 hc2
      obtain ⟨ya0, ya1⟩ := ka.cells2
      have hbT := hbel.trans (hT.mono hbs)
      go_wp2_with fail
      refine (HV.out _ hbT).mono ?_
      rintro e w1 ⟨rfl, hb1⟩
      clear ya0 ya1 HV
      have hT2 := hT.trans (hb1.mono hT.size)
      have hown2 := own_grown hown hT2
      have hbel2 := hbel.trans (hT2.mono hbs)
      have hbs2 := hbel2.size
      clear hown hT hT2 hb1 hbT
      go_wp2_with (at_builtin; refine wpList_append1 Tryz.sliceVec rfl _ _ rfl w1 w.heap.size _ _ _ hown2 rfl #[.int .i64 x1, .int .i64 y1] 1 rfl rfl (by simp [Value.oneCell']) (by omega) (by omega) (by omega) ?_; intro v' w2 hown3 hb2)
      go_roundw
      case rel => exact ⟨k + 1, by omega, by go_num, by rw [HM.out, fl_append, HM2.out]; exact hown3, hbel2.trans hb2⟩
      case measure => simp [intOf]; omega
    · obtain rfl : k = n := by omega
      have e : (l.take k).map (fun p => addV p v) = l.map fun p => addV p v := by rw [List.take_of_length_le (by omega)]
      rw [e] at hown
      have o := OwnV.of hown
      have hlen := o.len
      clear e hown hx
      obtain ⟨A1, c1, rfl⟩ := o.form
      have HA := hide (impl_areValidVecs wr wr.heap.size (Nat.le_refl _) A1 k c1 _ (o.rdV hl (map_add_wf hV hv)))
      go_wp2_with fail
      refine HA.out.mono ?_
      rintro e w1 ⟨rfl, hb1⟩
      have o1 := (o.below hb1 (Nat.le_refl _)).wider (Nat.le_refl _) hb1.size
      have hbel2 := hbel.trans (hb1.mono hbel.size)
      clear HA o hb1
      by_cases ev : allV (l.map fun p => addV p v) = true
      · have HN : Hid (mvL l v = l.map fun p => addV p v) := by show _ = _; unfold mvL; rw [if_pos ⟨hv, ev⟩]
        have hL : Hid ((mvL l v).length = k) := by show _ = _; rw [HN.out]; exact hlen
        rw [ev]
        go_wp2_with fail
        go_ret
        exact ⟨_, rfl, by rw [hL.out, HN.out]; exact o1, hbel2⟩
      · have HN : Hid (mvL l v = []) := by show _ = _; unfold mvL; rw [if_neg (fun h => ev h.2)]
        have ev : allV (l.map fun p => addV p v) = false := by simpa using ev
        rw [ev]
        go_wp2_with fail
        go_ret
        exact ⟨_, rfl, by rw [HN.out]; exact OwnV.nil _ _ _ _, hbel2⟩
theorem impl_MovePolygon (w : World) (B : Nat) (hB : B ≤ w.heap.size) (A : Option Addr) (n c : Nat) (l : List V2) (R : RdV w B A n l) (hV : allV l = true) (x y : Int) (hv : vecB x y = true) :
    Calls Tryz.prog 6 #[.slice A n c, .agg #[.int .i64 x, .int .i64 y]] w fun e w' => ∃ r, e = .returned r ∧ OwnV w' w.heap.size w'.heap.size 26 r (mvL l (x, y)).length (mvL l (x, y)) ∧ Below w.heap.size w w' := by
  have hvb := vecB_bounds hv
  obtain ⟨W0, hW0⟩ : ∃ W0, W0 = w.alloc (.cells #[.int .i64 x, .int .i64 y] 26) := ⟨_, rfl⟩
  have hT0 : Below w.heap.size w W0 := by rw [hW0]; exact below_new _ _
  have kv : Box W0 w.heap.size 26 #[.int .i64 x, .int .i64 y] := by rw [hW0]; exact Box.last _ _ _ rfl
  have HI := hide (impl_IsValidVec W0 x y (WalkArith.wf_i64 ⟨by omega, by omega⟩) (WalkArith.wf_i64 ⟨by omega, by omega⟩))
  rw [hv] at HI
  have HC := hide (fun (W : World) (hb : Below W0.heap.size W0 W) => impl_changedMove W B (Nat.le_trans hB (Nat.le_trans hT0.size hb.size)) A n c l ((R.below (hT0.mono hB)).below (hb.mono (Nat.le_trans hB hT0.size))) hV (x, y) hv w.heap.size (kv.below hb kv.lt))
  obtain ⟨v0, v1⟩ := kv.cells2
  clear kv R hv hvb
  go_enter Tryz.func6, Tryz.ntmps6
  go_upto_region 1 with fail
  rw [← hW0]
  clear hW0
  go_wp2_with fail
  refine HI.out.mono ?_
  rintro e w1 ⟨rfl, hb1⟩
  clear v0 v1
  go_wp2_with fail
  refine (HC.out _ hb1).mono ?_
  rintro e w2 ⟨r, rfl, o, hb2⟩
  have hT1 := below_then hT0 hb1
  have o2 := o.wider (lo' := w.heap.size) (hi' := w2.heap.size) hT1.size (Nat.le_refl _)
  clear o
  go_wp2_with fail
  go_ret
  exact ⟨_, rfl, o2, below_then hT1 hb2⟩
end Go.Proofs.YtdagomikjblgiaaGreat
