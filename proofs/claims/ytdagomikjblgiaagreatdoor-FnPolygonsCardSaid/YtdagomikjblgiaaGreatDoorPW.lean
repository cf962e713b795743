/-
  The texts VecD, PlgW, put together; each has its own heading below. No condition of ours.
-/
import Derived.Test.YtdagomikjblgiaaGreatDoorDA
import Derived.Test.YtdagomikjblgiaaGreatDoorPB
import Derived.Test.YtdagomikjblgiaaGreatDoorLB
import Derived.IntWalk
import Derived.Test.YtdagomikjblgiaaGreatDoorSPG
import Derived.Test.YtdagomikjblgiaaGreatDoorPN
import Derived.Test.YtdagomikjblgiaaGreatDoorMI
import Derived.Test.YtdagomikjblgiaaGreatDoorPIX
/-
  The laws' vectors: what the reference's draws make.
-/




namespace Go.Proofs.YtdagomikjblgiaaGreatDoor
open Go.RowKit
set_option linter.unusedVariables false
theorem Only.asideS {G : Nat} {a b : World} (h : Only G a b) : Aside G (G + 1) a b :=
  ⟨h.1.os, h.1.tape, h.1.output, h.1.size, fun i hi hd => h.1.block i hi (fun e => by injection e with e; omega)⟩
theorem alloc_asideS (w : World) (o : Obj) (lo hi : Nat) : Aside lo hi w (w.alloc o) := ⟨((Below.refl w.heap.size w).alloc (Nat.le_refl _) o).os, ((Below.refl w.heap.size w).alloc (Nat.le_refl _) o).tape, ((Below.refl w.heap.size w).alloc (Nat.le_refl _) o).output, ((Below.refl w.heap.size w).alloc (Nat.le_refl _) o).size, fun k hk _ => ((Below.refl w.heap.size w).alloc (Nat.le_refl _) o).block k hk⟩
theorem aside_set_newS {w W : World} {lo hi g j : Nat} (h : Aside lo hi w W) (hg : w.heap.size ≤ g) (u : Value) : Aside lo hi w (W.setCell ⟨g, j, none⟩ u) :=
  ⟨h.os, h.tape, h.output, by rw [setCell_size]; exact h.size, fun k hk hd => (Below.heap_setCell _ _ _ _ (show k ≠ g by omega)).trans (h.block k hk hd)⟩
theorem cur_setS {w : World} {G g n c i : Nat} {A : Option Addr} (h : CurAt w G A n c) (hg : G < g) (v : Value) : CurAt (w.setCell ⟨g, i, none⟩ v) G A n c :=
  h.below (B := G + 1) ((Below.refl (G + 1) w).setCell (p := ⟨g, i, none⟩) (show G + 1 ≤ g by omega) v) (Nat.lt_succ_self _)
set_option maxRecDepth 100000 in
set_option maxHeartbeats 1600000 in
theorem l05Vec_s (G n c : Nat) (A : Option Addr) (B : Nat) (w : World) (hn : n ≤ 1099511627776) (hc : CurAt w G A n c) (hb : Bytes w B A n) (hB : B ≤ G) :
    Calls Tryz.prog 18 #[.pointer (some ⟨G, 0, none⟩)] w fun e w' => ∃ x y : Int, e = .returned (.agg #[.int .i64 x, .int .i64 y]) ∧ (x.natAbs ≤ 10 ∧ y.natAbs ≤ 10) ∧ CurAt w' G A n c ∧ Aside G (G + 1) w w' := by
  have hGw := hc.lt
  have hb0 := below_new w (.cells #[.int .i64 0, .int .i64 0] 26)
  have ha0 := alloc_asideS w (.cells #[.int .i64 0, .int .i64 0] 26) G (G + 1)
  have k0 := Box.last w 26 #[.int .i64 0, .int .i64 0] rfl
  have hs0 := alloc_size w (.cells #[.int .i64 0, .int .i64 0] 26)
  have hc0 := hc.below hb0 hGw
  have hbb0 := hb.below (hb0.mono (by omega))
  have HO1 := hide (l01Below_any G n c 21 A B _ hn (by omega) (by omega) hc0 hbb0 hB)
  go_enter Tryz.func18, Tryz.ntmps18
  go_wp2_with fail
  refine HO1.out.mono ?_
  rintro e w1 ⟨r, rfl, hr, hc1, ho1⟩
  have ha1 := ha0.trans (Only.asideS ho1)
  have k1 := k0.aside (Only.asideS ho1) (.inr (by omega))
  have hs1 : w1.heap.size = w.heap.size + 1 := by rw [ho1.2, hs0]
  have hbb1 := hbb0.below (ho1.below hB (by omega))
  have HO2 := hide (l01Below_any G n c 21 A B w1 hn (by omega) (by omega) hc1 hbb1 hB)
  have HS1 := hide hs1
  clear hc hb hb0 ha0 k0 hc0 hbb0 HO1 ho1 hs0 hs1 hbb1 hc1
  go_wp2_with fail
  refine HO2.out.mono ?_
  rintro e w2 ⟨r', rfl, hr', hc2, ho2⟩
  have ha2 := ha1.trans (Only.asideS ho2)
  have k2 := k1.aside (Only.asideS ho2) (.inr (by omega))
  have HE := hide (⟨k2.set2 (.int .i64 ((r : Int) - 10)) (.int .i64 ((r' : Int) - 10)), cur_setS (cur_setS hc2 (show G < w.heap.size by omega) _) (show G < w.heap.size by omega) _, aside_set_newS (aside_set_newS ha2 (Nat.le_refl _) _) (Nat.le_refl _) _⟩ : Box ((w2.setCell ⟨w.heap.size, 0, none⟩ (.int .i64 ((r : Int) - 10))).setCell ⟨w.heap.size, 1, none⟩ (.int .i64 ((r' : Int) - 10))) w.heap.size 26 #[.int .i64 ((r : Int) - 10), .int .i64 ((r' : Int) - 10)] ∧ CurAt ((w2.setCell ⟨w.heap.size, 0, none⟩ (.int .i64 ((r : Int) - 10))).setCell ⟨w.heap.size, 1, none⟩ (.int .i64 ((r' : Int) - 10))) G A n c ∧ Aside G (G + 1) w ((w2.setCell ⟨w.heap.size, 0, none⟩ (.int .i64 ((r : Int) - 10))).setCell ⟨w.heap.size, 1, none⟩ (.int .i64 ((r' : Int) - 10))))
  obtain ⟨t0, t1, f0, f1⟩ := k2.facts
  clear HO2 HS1 k1 k2 ha1 ha2 hc2 ho2
  go_wp2_with fail
  refine bodyPost_ret (results_cell_row rfl _ _ w.heap.size _ #[.int .i64 ((r : Int) - 10), .int .i64 ((r' : Int) - 10)] (0, 0) _ rfl HE.out.1 Tryz.underlying26 rfl Tryz.sizeVec) rfl ?_
  exact ⟨_, _, rfl, ⟨by omega, by omega⟩, HE.out.2⟩
set_option maxRecDepth 100000 in
set_option maxHeartbeats 1600000 in
theorem MakeVec_s (n c B : Nat) (A : Option Addr) (k : Nat) (hk : k ≤ 1000) (w : World) (hn : n ≤ 1099511627776) (hb : Bytes w B A n) (hB : B ≤ w.heap.size) :
    Calls Tryz.prog 5 #[.slice A n c, .int .i64 k] w fun e w' => ∃ x y : Int, e = .returned (.agg #[.int .i64 x, .int .i64 y]) ∧ (x.natAbs ≤ 10 ∧ y.natAbs ≤ 10) ∧ Below w.heap.size w w' := by
  obtain ⟨K, hK⟩ : ∃ K : Nat, K = 3 * k := ⟨_, rfl⟩
  have hKe : 3 * (k : Int) = (K : Int) := by omega
  have hb0 := below_new w (.cells #[.int .i64 0, .int .i64 0] 26)
  have k0 := Box.last w 26 #[.int .i64 0, .int .i64 0] rfl
  have hs0 := alloc_size w (.cells #[.int .i64 0, .int .i64 0] 26)
  have hbb0 := hb.below (hb0.mono hB)
  have HL := hide (l31New_any n c B K A _ hn (by omega) hbb0 (show B ≤ (w.alloc (.cells #[.int .i64 0, .int .i64 0] 26)).heap.size by omega))
  rw [hs0] at HL
  clear hK
  go_enter Tryz.func5, Tryz.ntmps5
  go_wp2_with fail
  refine HL.out.mono ?_
  rintro e w1 ⟨rfl, hc1, hb1, hs1⟩
  have hb1' : Below w.heap.size w w1 := hb0.trans (hb1.mono (Nat.le_succ _))
  have k1 := k0.below hb1 (Nat.lt_succ_self _)
  have HN := hide (l05Vec_s (w.heap.size + 1) n c A B w1 hn hc1 (hb.below (hb1'.mono hB)) (by omega))
  have HS := hide hs1
  clear hs1 hc1 hb1 HL hb hbb0 k0 hb0 hs0
  go_wp2_with fail
  refine HN.out.mono ?_
  rintro e w2 ⟨x, y, rfl, hxy, hc2, ha⟩
  have hs1 := HS.out
  have hs2 := ha.size
  have hb2' := hb1'.trans (ha.below (show w.heap.size ≤ w.heap.size + 1 by omega) (by omega))
  have k2 := k1.aside ha (.inl (Nat.lt_succ_self _))
  have HE := hide (⟨k2.set2 (.int .i64 x) (.int .i64 y), (hb2'.setCell (p := ⟨w.heap.size, 0, none⟩) (Nat.le_refl _) _).setCell (p := ⟨w.heap.size, 1, none⟩) (Nat.le_refl _) _⟩ : Box ((w2.setCell ⟨w.heap.size, 0, none⟩ (.int .i64 x)).setCell ⟨w.heap.size, 1, none⟩ (.int .i64 y)) w.heap.size 26 #[.int .i64 x, .int .i64 y] ∧ Below w.heap.size w ((w2.setCell ⟨w.heap.size, 0, none⟩ (.int .i64 x)).setCell ⟨w.heap.size, 1, none⟩ (.int .i64 y)))
  obtain ⟨t0, t1, f0, f1⟩ := k2.facts
  have HXY := hide hxy
  have x1 : -10 ≤ x ∧ x ≤ 10 := by omega
  have y1 : -10 ≤ y ∧ y ≤ 10 := by omega
  clear hs1 hs2 hb2' k2 k1 hb1' ha hxy HN hc2
  go_wp2_with fail
  refine bodyPost_ret (results_cell_row rfl _ _ w.heap.size _ #[.int .i64 x, .int .i64 y] (0, 0) _ rfl HE.out.1 Tryz.underlying26 rfl Tryz.sizeVec) rfl ?_
  exact ⟨x, y, rfl, HXY.out, HE.out.2⟩
end Go.Proofs.YtdagomikjblgiaaGreatDoor

/-
  The law of polygons: its walk.
-/







namespace Go.Proofs.YtdagomikjblgiaaGreatDoor
open Go.RowKit
set_option linter.unusedVariables false
theorem small_wfP {l : List V2} (h : ∀ v ∈ l, smallV v) : wfV l := fun v hv => (h v hv).wf
theorem atPt_ofP {w w' : World} {v0 v1 v2 v3 v4 v5 : Value} {x y : Int} (o : POwn w' w.heap.size w'.heap.size 3 v0 v1 v2 v3 v4 v5 (vecP x y)) (h : vecB x y = true) : atPt w' w'.heap.size v0 v1 v2 v3 v4 v5 x y := ⟨o.in_ (vecP_fit x y) (Nat.le_refl _), h⟩
theorem cycP_reflP (l : List V2) : cycP l l := ⟨rfl, by
  by_cases h : l.length = 0
  · exact .inl h
  · exact .inr ⟨0, by omega, by simp [rotL]⟩⟩
theorem negL_wfP (l : List V2) : wfV (negL l) := by
  unfold negL
  split
  · rename_i h
    intro v hv
    obtain ⟨u, hu, rfl⟩ := List.mem_map.1 hv
    exact neg_wf (List.all_eq_true.1 h u hu)
  · intro v hv; simp at hv
set_option maxRecDepth 100000 in
set_option maxHeartbeats 1600000 in
theorem FnPolygons_walk (w : World) (a0 : Option Addr) (len0 cap0 : Nat) (z0 : List Int) (f0 : IsRow .u8 w a0 len0 cap0 z0) (hE : Sent w "strconv.ErrSyntax") (hR : Sent w "strconv.ErrRange") (hPT : PowTab w) (ml : Int) (hML : w.cell? ⟨0, 0, none⟩ = some (.int .i64 ml)) (hg0 : 0 < w.heap.size) :
    Calls Tryz.prog 3 #[.slice a0 len0 cap0] w fun e w' => e = .returned (.bool true) ∧ Below w.heap.size w w' := by
  obtain ⟨F, hL, hM⟩ := f0.bytesF
  obtain ⟨FB, -⟩ := f0.bytes
  clear f0
  generalize z0.take len0 = bs at F hL
  subst hL
  by_cases c0 : 1048576 < bs.length
  · unfold maxLen at hM
    clear F FB hE hR hPT hML
    go_enter Tryz.func3, Tryz.ntmps3
    go_wp2_with fail
    go_ret
    exact ⟨rfl, Below.refl _ _⟩
  have PL := hPT.lt
  have GL := Tryz.gltS
  obtain ⟨D, hD⟩ : ∃ D, D = drawF bs 8 (skipF bs (newS bs) (7 * 0)) := ⟨_, rfl⟩
  obtain ⟨d1, d2, d3⟩ := drawF_small bs 8 (skipF bs (newS bs) (7 * 0))
  obtain ⟨d4, d5⟩ := drawF_five bs 8 (skipF bs (newS bs) (7 * 0))
  have HM0 := hide (fun (W : World) (hb : Below w.heap.size w W) => show Calls Tryz.prog 4 #[.slice a0 bs.length cap0, .int .i64 0] W _ from MakePolygon_f cap0 w.heap.size a0 bs 0 (by omega) W (by omega) (F.below hb) hb.size)
  have HMV := hide (fun (W : World) (hb : Below w.heap.size w W) => show Calls Tryz.prog 5 #[.slice a0 bs.length cap0, .int .i64 9] W _ from MakeVec_s bs.length cap0 w.heap.size a0 9 (by omega) W (by omega) (FB.below hb) hb.size)
  rw [← hD] at HM0 d1 d2 d3 d4 d5
  have HOP := hide (fun (x y : Int) (hx : x.natAbs ≤ 10) (hy : y.natAbs ≤ 10) => one_poly d3 d1 hx hy)
  have hok := par_fmtL d3
  have hfs : (fmtL D).size ≤ 1048576 := fmtL_size (by omega)
  have hDW := small_wfP d1
  have HDA := hide (poly_allP d3)
  have hB := polyB_iff.2 d3
  have h3 := d3.1
  have HFP := hide (fun (W : World) (hb : Below w.heap.size w W) (A : Option Addr) (c : Nat) (R : RdV W W.heap.size A D.length D) => impl_FormatPolygon W W.heap.size (Nat.le_refl _) A D.length c D R (hPT.below hb PL))
  have HPP := hide (fun (W : World) (hb : Below w.heap.size w W) => show Calls Tryz.prog 7 #[.string (fmtL D)] W fun e w' => ∃ v, e = .returned (.tuple #[v, .bool true]) ∧ OwnV w' W.heap.size w'.heap.size 26 v D.length D ∧ Below W.heap.size W w' from by
    have h := impl_ParsePolygon W (fmtL D) hfs (hPT.below hb PL) (hE.below Tryz.gSyn hb (by omega)) (hR.below Tryz.gRng hb (by omega)) ml ((hb.cell hg0).trans hML) (Nat.lt_of_lt_of_le hg0 hb.size)
    rw [hok.1, hok.2] at h
    exact h)
  clear hD d1 d2 d3 d5 F FB hPT hE hR hML hok hfs
  go_enter Tryz.func3, Tryz.ntmps3
  go_wp2_with fail
  refine (HM0.out w (Below.refl _ _)).mono ?_
  rintro e w1 ⟨v1, rfl, o1, hb1⟩
  obtain ⟨A1, c1, rfl⟩ := o1.form
  have cap1 := hide o1.cap
  have R1 := o1.rdV (by omega) hDW
  have hT1 := hb1
  clear o1 HM0
  go_wp2_with fail
  refine (HMV.out w1 hT1).mono ?_
  rintro e w2 ⟨x, y, rfl, ⟨hx, hy⟩, hb2⟩
  have R1 := R1.up hb2
  have hT2 := below_then hT1 hb2
  have hvv : vecB x y = true := by unfold vecB; simp; omega
  obtain ⟨p1, p2, p3, p4, p5, p6, p7, p8, p9, p10⟩ := HOP.out x y hx hy
  have HNN := hide p3
  have HNL := hide p4
  have HC0 := hide p5
  have HBK := hide p9
  have hmL : (mvL D (x, y)).length ≤ 1048576 := by have := mvL_len (l := D) (x, y); omega
  have hmW : wfV (mvL D (x, y)) := mvL_wf _
  have hoL : (orgL D).length ≤ 1048576 := by rw [orgL_is hB]; have := mvL_len (l := D) (ng (loN D D.length)); omega
  have hoW : wfV (orgL D) := by rw [orgL_is hB]; exact mvL_wf _
  have hlv := vecB_bounds p10
  clear HMV HOP hb1 hb2 hT1 p3 p4 p5 p9
  obtain ⟨W3, hW3⟩ : ∃ W3, W3 = w2.alloc (.cells #[.int .i64 x, .int .i64 y] 26) := ⟨_, rfl⟩
  have hb23 : Below w2.heap.size w2 W3 := by rw [hW3]; exact below_new _ _
  have kv : Box W3 w2.heap.size 26 #[.int .i64 x, .int .i64 y] := by rw [hW3]; exact Box.last _ _ _ rfl
  have R1 := R1.up hb23
  have hT3 := below_then hT2 hb23
  have HMP := hide (impl_MovePolygon W3 W3.heap.size (Nat.le_refl _) A1 D.length c1 D R1 HDA.out x y hvv)
  go_upto_region 5 with fail
  rw [← hW3]
  clear hW3 hb23 hT2
  obtain ⟨y0, y1⟩ := kv.cells2
  clear kv
  go_wp2_with fail
  refine HMP.out.mono ?_
  rintro e w4 ⟨v4, rfl, o4, hb4⟩
  obtain ⟨A4, c4, rfl⟩ := o4.form
  have R1 := R1.up hb4
  have R4 := o4.rdV hmL hmW
  have hT4 := below_then hT3 hb4
  clear HMP o4 hb4 hT3 y0 y1
  go_wp2_with fail
  refine (HFP.out w4 hT4 A1 c1 R1).mono ?_
  rintro e w5 ⟨rfl, hb5⟩
  have R1 := R1.up hb5
  have R4 := R4.up hb5
  have hT5 := below_then hT4 hb5
  clear HFP hb5 hT4
  go_wp2_with fail
  refine (HPP.out w5 hT5).mono ?_
  rintro e w6 ⟨v6, rfl, o6, hb6⟩
  obtain ⟨A6, c6, rfl⟩ := o6.form
  have cap6 := hide o6.cap
  have R1 := R1.up hb6
  have R4 := R4.up hb6
  have R6 := o6.rdV (by omega) hDW
  have hT6 := below_then hT5 hb6
  have HWI := hide (impl_WidthOf w6 w6.heap.size (Nat.le_refl _) A1 D.length c1 D R1)
  rw [hB] at HWI
  have HML2 := hide (fun (W : World) (A : Option Addr) (c : Nat) (R : RdV W W.heap.size A (orgL D).length (orgL D)) => impl_MovePolygon W W.heap.size (Nat.le_refl _) A _ c _ R p8 (loB D).1 (loB D).2 p10)
  have HBK2 : Hid (mvL (orgL D) ((loB D).1, (loB D).2) = D) := HBK.out
  rw [HBK2.out] at HML2
  clear HPP o6 hb6 hT5 HBK HBK2 p8 p10
  generalize (loB D).1 = lx at *
  generalize (loB D).2 = ly at *
  generalize (hiB D).1 = hx' at *
  generalize (hiB D).2 = hy' at *
  go_wp2_with fail
  refine HWI.out.mono ?_
  rintro e w7 ⟨rfl, hb7⟩
  have R1 := R1.up hb7
  have R4 := R4.up hb7
  have R6 := R6.up hb7
  have hT7 := below_then hT6 hb7
  clear HWI hb7 hT6
  obtain ⟨W8, hW8⟩ : ∃ W8, W8 = (w7.alloc (.cells #[.int .i64 lx, .int .i64 ly] 26)).alloc (.cells #[.int .i64 hx', .int .i64 hy'] 26) := ⟨_, rfl⟩
  have hb78 : Below w7.heap.size w7 W8 := by rw [hW8]; exact below_alloc (below_new _ _) _
  have k8 : Box W8 w7.heap.size 26 #[.int .i64 lx, .int .i64 ly] := by rw [hW8]; exact (Box.last _ _ _ rfl).alloc _
  have k9 : Box W8 (w7.heap.size + 1) 26 #[.int .i64 hx', .int .i64 hy'] := by rw [hW8]; exact Box.last _ _ _ (alloc_size _ _).symm
  have R1 := R1.up hb78
  have R4 := R4.up hb78
  have R6 := R6.up hb78
  have hT8 := below_then hT7 hb78
  go_upto_region 8 with fail
  rw [← hW8]
  clear hW8 hb78 hT7
  have HMO := hide (impl_MoveToOrigin W8 W8.heap.size (Nat.le_refl _) A1 D.length c1 D R1)
  go_wp2_with fail
  refine HMO.out.mono ?_
  rintro e w9 ⟨v9, rfl, o9, hb9⟩
  obtain ⟨A9, c9, rfl⟩ := o9.form
  have R1 := R1.up hb9
  have R4 := R4.up hb9
  have R6 := R6.up hb9
  have R9 := o9.rdV hoL hoW
  have k8 := k8.below hb9 k8.lt
  have k9 := k9.below hb9 k9.lt
  have hT9 := below_then hT8 hb9
  have HSP := hide (impl_SamePolygon w9 w9.heap.size (Nat.le_refl _) A6 D.length c6 D R6 A1 D.length c1 D R1 cap6.out cap1.out)
  rw [cycB_iff.2 (cycP_reflP D)] at HSP
  clear HMO o9 hb9 hT8 R6 cap6
  go_wp2_with fail
  refine HSP.out.mono ?_
  rintro e w10 ⟨rfl, hb10⟩
  have R1 := R1.up hb10
  have R4 := R4.up hb10
  have R9 := R9.up hb10
  have k8 := k8.below hb10 k8.lt
  have k9 := k9.below hb10 k9.lt
  have hT10 := below_then hT9 hb10
  have HA1 := hide (impl_DoubleArea w10 w10.heap.size (Nat.le_refl _) A4 _ c4 _ R4)
  rw [p1] at HA1
  have HA2 := hide (fun (W : World) (R : RdV W W.heap.size A1 D.length D) => impl_DoubleArea W W.heap.size (Nat.le_refl _) A1 _ c1 _ R)
  clear p1
  generalize areaB D = ad at *
  clear HSP hb10 hT9 R4
  go_wp2_with fail
  refine HA1.out.mono ?_
  rintro e w11 ⟨rfl, hb11⟩
  have R1 := R1.up hb11
  have R9 := R9.up hb11
  have k8 := k8.below hb11 k8.lt
  have k9 := k9.below hb11 k9.lt
  have hT11 := below_then hT10 hb11
  clear HA1 hb11 hT10
  go_wp2_with fail
  refine (HA2.out w11 R1).mono ?_
  rintro e w12 ⟨rfl, hb12⟩
  have R1 := R1.up hb12
  have R9 := R9.up hb12
  have k8 := k8.below hb12 k8.lt
  have k9 := k9.below hb12 k9.lt
  have hT12 := below_then hT11 hb12
  have HN1 := hide (impl_NegatePolygon w12 w12.heap.size (Nat.le_refl _) A1 _ c1 _ R1)
  have hnl : (negL D).length ≤ 1048576 := by rw [HNL.out]; omega
  clear HA2 hb12 hT11
  go_wp2_with fail
  refine HN1.out.mono ?_
  rintro e w13 ⟨v13, rfl, o13, hb13⟩
  obtain ⟨A13, c13, rfl⟩ := o13.form
  have R1 := R1.up hb13
  have R9 := R9.up hb13
  have k8 := k8.below hb13 k8.lt
  have k9 := k9.below hb13 k9.lt
  have hT13 := below_then hT12 hb13
  have HN2 := hide (impl_NegatePolygon w13 w13.heap.size (Nat.le_refl _) A13 _ c13 _ (o13.rdV hnl (negL_wfP D)))
  rw [HNN.out] at HN2
  clear HN1 o13 hb13 hT12
  go_wp2_with fail
  refine HN2.out.mono ?_
  rintro e w14 ⟨v14, rfl, o14, hb14⟩
  obtain ⟨A14, c14, rfl⟩ := o14.form
  have R1 := R1.up hb14
  have R9 := R9.up hb14
  have k8 := k8.below hb14 k8.lt
  have k9 := k9.below hb14 k9.lt
  have hT14 := below_then hT13 hb14
  have HS2 := hide (impl_SamePolygon w14 w14.heap.size (Nat.le_refl _) A14 D.length c14 D (o14.rdV (by omega) hDW) A1 D.length c1 D R1 o14.cap cap1.out)
  rw [cycB_iff.2 (cycP_reflP D)] at HS2
  clear HN2 o14 hb14 hT13
  go_wp2_with fail
  refine HS2.out.mono ?_
  rintro e w15 ⟨rfl, hb15⟩
  have R1 := R1.up hb15
  have R9 := R9.up hb15
  have k8 := k8.below hb15 k8.lt
  have k9 := k9.below hb15 k9.lt
  have hT15 := below_then hT14 hb15
  clear HS2 hb15 hT14
  obtain ⟨ad0, hA, hbd, hc1, hc2⟩ := R1.2.1.vec (k := 0) (by omega)
  have e0 : ad0.add (0 * 2) = ad0 := add_zero' ad0
  rw [e0] at hc1 hc2
  clear e0
  have hD0 : 0 < D.length := by omega
  have hi0 : (0 : Int) < (D.length : Int) := by omega
  have hv0 : vecB D[0].1 D[0].2 = true := allV_at HDA.out hD0
  have hv0b := vecB_bounds hv0
  have HC1 : Hid (contB D (D[0].1, D[0].2) = 0) := by
    have h := HC0.out
    rw [atV_eq hD0] at h
    exact h
  have HPO := hide (fun (W : World) => impl_PointOf W D[0].1 D[0].2 (WalkArith.wf_i64 ⟨by omega, by omega⟩) (WalkArith.wf_i64 ⟨by omega, by omega⟩))
  have HCA := hide (fun (W : World) (R : RdV W W.heap.size A1 D.length D) {q0 q1 q2 q3 q4 q5 : Value} (hP : atPt W W.heap.size q0 q1 q2 q3 q4 q5 D[0].1 D[0].2) => impl_ContainsAt W W.heap.size (Nat.le_refl _) A1 D.length c1 D R hP)
  rw [HC1.out] at HCA
  generalize D[0].1 = x0 at *
  generalize D[0].2 = y0 at *
  subst hA
  go_wp2_with fail
  refine (HPO.out _).mono ?_
  rintro e w16 ⟨q0, q1, q2, q3, q4, q5, rfl, op, hb16⟩
  have R1 := R1.up hb16
  have R9 := R9.up hb16
  have k8 := k8.below hb16 k8.lt
  have k9 := k9.below hb16 k9.lt
  have hT16 := below_then hT15 hb16
  have HX := hide (HCA.out w16 R1 (atPt_ofP op hv0))
  clear HPO HCA op hb16 hT15 hc1 hc2
  go_wp2_with fail
  refine HX.out.mono ?_
  rintro e w17 ⟨rfl, hb17⟩
  have R1 := R1.up hb17
  have R9 := R9.up hb17
  have k8 := k8.below hb17 k8.lt
  have k9 := k9.below hb17 k9.lt
  have hT17 := below_then hT16 hb17
  have HMV := hide (HML2.out w17 A9 c9 R9)
  obtain ⟨u0, u1⟩ := k8.cells2
  obtain ⟨s0, s1⟩ := k9.cells2
  clear HX HML2 hb17 hT16 k8 k9
  go_wp2_with fail
  refine HMV.out.mono ?_
  rintro e w18 ⟨v18, rfl, o18, hb18⟩
  obtain ⟨A18, c18, rfl⟩ := o18.form
  have R1 := R1.up hb18
  have hT18 := below_then hT17 hb18
  have HS3 := hide (impl_SamePolygon w18 w18.heap.size (Nat.le_refl _) A18 D.length c18 D (o18.rdV (by omega) hDW) _ D.length c1 D R1 o18.cap cap1.out)
  rw [cycB_iff.2 (cycP_reflP D)] at HS3
  clear HMV o18 hb18 hT17 u0 u1 s0 s1
  go_wp2_with fail
  refine HS3.out.mono ?_
  rintro e w19 ⟨rfl, hb19⟩
  have hT19 := below_then hT18 hb19
  go_wp2_with fail
  go_ret
  exact ⟨rfl, hT19⟩
end Go.Proofs.YtdagomikjblgiaaGreatDoor
