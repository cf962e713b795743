/-
  The program's sums of polygons: contracts: MovePolygon of any corners.
-/
import Derived.Test.YtocllmaikngoaaaSP
import Derived.Test.YtocllmaikngoaaaPolI3
namespace Go.Proofs.Ytocllmaikngoaaa
open Go.RowKit
set_option linter.unusedVariables false
theorem impl_sumOfW (w : World) (x y u v : Int) :
    Calls Try.prog 69 #[.agg #[.int .i64 x, .int .i64 y], .agg #[.int .i64 u, .int .i64 v]] w fun e w' => e = .returned (.agg #[.int .i64 (wrap64 (x + u)), .int .i64 (wrap64 (y + v))]) ∧ Below w.heap.size w w' := by
  go_enter Try.func69, Try.ntmps69
  go_wp2_with fail
  generalize wrap64 (x + u) = s at *
  generalize wrap64 (y + v) = t at *
  refine bodyPost_ret (results_cell_row rfl _ _ (w.heap.size + 2) _ #[.int .i64 s, .int .i64 t] (0, 0) _ rfl (show Box _ _ 29 #[.int .i64 s, .int .i64 t] from Box.last _ _ _ (by rw [alloc_size, alloc_size])) Try.underlying29 rfl Try.sizeVec) rfl ?_
  exact ⟨rfl, below_alloc (below_alloc (below_new _ _) _) _⟩
set_option maxHeartbeats 1600000 in
theorem impl_move1W (w : World) (gv : Nat) (x y u v : Int) (kv : Box w gv 29 #[.int .i64 u, .int .i64 v]) :
    Calls Try.prog 68 #[.agg #[.int .i64 x, .int .i64 y], .pointer (some ⟨gv, 0, none⟩)] w fun e w' => e = .returned (.agg #[.int .i64 (wrap64 (x + u)), .int .i64 (wrap64 (y + v))]) ∧ Below w.heap.size w w' := by
  have HS := hide (fun (W : World) => impl_sumOfW W x y u v)
  obtain ⟨W0, hW0⟩ : ∃ W0, W0 = (w.alloc (.cells #[.int .i64 x, .int .i64 y] 29)).alloc (.cells #[.int .i64 0, .int .i64 0] 29) := ⟨_, rfl⟩
  have hT0 : Below w.heap.size w W0 := by rw [hW0]; exact below_alloc (below_new _ _) _
  have kx : Box W0 w.heap.size 29 #[.int .i64 x, .int .i64 y] := by rw [hW0]; exact (Box.last _ _ _ rfl).alloc _
  have kr : Box W0 (w.heap.size + 1) 29 #[.int .i64 0, .int .i64 0] := by rw [hW0]; exact Box.last _ _ _ (alloc_size _ _).symm
  have kv0 : Box W0 gv 29 #[.int .i64 u, .int .i64 v] := by rw [hW0]; exact (kv.alloc _).alloc _
  clear kv
  generalize wrap64 (x + u) = s at *
  generalize wrap64 (y + v) = t at *
  go_enter Try.func68, Try.ntmps68
  go_upto_region 1 with fail
  rw [← hW0]
  clear hW0
  obtain ⟨x0, x1⟩ := kx.cells2
  obtain ⟨v0, v1⟩ := kv0.cells2
  clear kx kv0
  go_wp2_with fail
  refine (HS.out _).mono ?_
  rintro e w1 ⟨rfl, hb1⟩
  have kr1 := kr.below hb1 kr.lt
  have HKR := hide kr1
  obtain ⟨r0, r1, r2, r3⟩ := kr1.facts
  have hT1 := below_then hT0 hb1
  clear HS kr kr1 x0 x1 v0 v1 hb1
  go_wp2_with fail
  refine bodyPost_ret (results_cell_row rfl _ _ (w.heap.size + 1) _ #[.int .i64 s, .int .i64 t] (0, 0) _ rfl (show Box _ _ 29 #[.int .i64 s, .int .i64 t] from HKR.out.set2 _ _) Try.underlying29 rfl Try.sizeVec) rfl ?_
  exact ⟨rfl, below_set2 hT1 (Nat.le_succ _) _ _⟩
theorem w64_eq (z : Int) : wrap64 z = IntKind.i64.wrap z := (IntWalk.i64_left z).symm
def addW (p v : V2) : V2 := (wrap64 (p.1 + v.1), wrap64 (p.2 + v.2))
/-- each corner moved by v, as the program moves it -/
def mvG (l : List V2) (v : V2) : List V2 := if vecV v = true ∧ allV (l.map fun p => addW p v) = true then l.map fun p => addW p v else []
theorem addW_wf (p v : V2) : (Lit.int .i64 (addW p v).1).wf = true ∧ (Lit.int .i64 (addW p v).2).wf = true := by
  unfold addW
  rw [w64_eq, w64_eq]
  exact ⟨wrap_wf _ _, wrap_wf _ _⟩
theorem map_addW_wf (l : List V2) (v : V2) : wfV (l.map fun p => addW p v) := fun x hx => by
  obtain ⟨p, _, rfl⟩ := List.mem_map.1 hx
  exact addW_wf p v
theorem mvG_wf (l : List V2) (v : V2) : wfV (mvG l v) := by
  unfold mvG
  split
  · exact map_addW_wf l v
  · intro x hx; simp at hx
theorem mvG_len (l : List V2) (v : V2) : (mvG l v).length ≤ l.length := by
  unfold mvG
  split
  · rw [List.length_map]; exact Nat.le_refl _
  · exact Nat.zero_le _
theorem w64_keep {z : Int} (h : -9223372036854775808 ≤ z ∧ z ≤ 9223372036854775807) : wrap64 z = z := by unfold wrap64; omega
/-- of valid corners: the sums -/
theorem mvG_valid {l : List V2} {v : V2} (h : allV l = true) : mvG l v = mvL l v := by
  unfold mvG mvL
  by_cases hv : vecV v = true
  · have e : (l.map fun p => addW p v) = l.map fun p => addV p v := List.map_congr_left fun p hp => by
      have h1 := vecB_bounds (List.all_eq_true.1 h p hp)
      have h2 := vecB_bounds hv
      unfold addW addV
      rw [w64_keep (by omega), w64_keep (by omega)]
    rw [e]
  · rw [if_neg (fun h => hv h.1), if_neg (fun h => hv h.1)]
set_option maxRecDepth 100000 in
set_option maxHeartbeats 1600000 in
theorem impl_changedMoveW (w : World) (B : Nat) (hB : B ≤ w.heap.size) (A : Option Addr) (n c : Nat) (l : List V2) (R : RdV w B A n l) (v : V2) (hv : vecV v = true) (gv : Nat) (kv : Box w gv 29 #[.int .i64 v.1, .int .i64 v.2]) :
    Calls Try.prog 67 #[.slice A n c, .func (.func 68) #[] #[.pointer (some ⟨gv, 0, none⟩)]] w fun e w' => ∃ r, e = .returned r ∧ OwnV w' w.heap.size w'.heap.size 29 r (mvG l v).length (mvG l v) ∧ Below w.heap.size w w' := by
  obtain ⟨hn, hx, hl, hwf⟩ := R
  obtain ⟨w0, hmk, hown0, hb0⟩ := Try.make0V w n hl
  have HK := hide kv
  have hgv := kv.lt
  clear kv
  go_enter Try.func67, Try.ntmps67
  go_wp2_with fail
  go_loopw [5, 13] (fun r i wr => ∃ k : Nat, k ≤ n ∧ i = .int .i64 k ∧ wr.ownsRow w.heap.size 29 2 r k (fl ((l.take k).map fun p => addW p v)) ∧ Below w.heap.size w wr) (fun _ i _ => n - (intOf i).toNat)
  case atStart => exact ⟨0, Nat.zero_le _, rfl, by simpa [fl] using hown0, hb0⟩
  case round =>
    clear hown0 hb0 hmk
    obtain ⟨k, hk, rfl, hown, hbel⟩ := hrel
    by_cases hlt : k < n
    · obtain ⟨ad, hA, hb1, hc1, hc2⟩ := (hx.below (hbel.mono hB)).vec (k := k) (by omega)
      have hkl : k < l.length := by omega
      have HV := hide (fun (W : World) (hb : Below w.heap.size w W) => impl_move1W W gv l[k].1 l[k].2 v.1 v.2 (HK.out.below hb hgv))
      have HM := hide (map_take_snoc (fun p => addW p v) hkl)
      have HM2 : Hid (addW l[k] v = (wrap64 (l[k].1 + v.1), wrap64 (l[k].2 + v.2))) := rfl
      have hbs := hbel.size
      generalize wrap64 (l[k].1 + v.1) = x1 at *
      generalize wrap64 (l[k].2 + v.2) = y1 at *
      generalize l[k].1 = x0 at *
      generalize l[k].2 = y0 at *
      obtain ⟨W0, hW0⟩ : ∃ W0, W0 = wr.alloc (.cells #[.int .i64 x0, .int .i64 y0] 29) := ⟨_, rfl⟩
      have ka : Box W0 wr.heap.size 29 #[.int .i64 x0, .int .i64 y0] := by rw [hW0]; exact Box.last _ _ _ rfl
      have hT : Below wr.heap.size wr W0 := by rw [hW0]; exact below_new _ _
      subst hA
      go_upto_region 5 with fail
      rw [← hW0]
      clear hW0 hc1 hc2
      obtain ⟨ya0, ya1⟩ := ka.cells2
      have hbT := hbel.trans (hT.mono hbs)
      go_wp2_with fail
      refine (HV.out _ hbT).mono ?_
      rintro e w1 ⟨rfl, hb1⟩
      clear ya0 ya1 HV
      have hT2 := hT.trans (hb1.mono hT.size)
      have hown2 := own_grown hown hT2
      have hbel2 := hbel.trans (hT2.mono hbs)
      have hbs2 := hbel2.size
      clear hown hT hT2 hb1 hbT
      go_wp2_with (at_builtin; refine wpList_append1 Try.sliceVec rfl _ _ rfl w1 w.heap.size _ _ _ hown2 rfl #[.int .i64 x1, .int .i64 y1] 1 rfl rfl (by simp [Value.oneCell']) (by omega) (by omega) (by omega) ?_; intro v' w2 hown3 hb2)
      go_roundw
      case rel => exact ⟨k + 1, by omega, by go_num, by rw [HM.out, fl_append, HM2.out]; exact hown3, hbel2.trans hb2⟩
      case measure => simp [intOf]; omega
    · obtain rfl : k = n := by omega
      have e : (l.take k).map (fun p => addW p v) = l.map fun p => addW p v := by rw [List.take_of_length_le (by omega)]
      rw [e] at hown
      have o := OwnV.of hown
      have hlen := o.len
      clear e hown hx
      obtain ⟨A1, c1, rfl⟩ := o.form
      have HA := hide (impl_areValidVecs wr wr.heap.size (Nat.le_refl _) A1 k c1 _ (o.rdV hl (map_addW_wf l v)))
      go_wp2_with fail
      refine HA.out.mono ?_
      rintro e w1 ⟨rfl, hb1⟩
      have o1 := (o.below hb1 (Nat.le_refl _)).wider (Nat.le_refl _) hb1.size
      have hbel2 := hbel.trans (hb1.mono hbel.size)
      clear HA o hb1
      by_cases ev : allV (l.map fun p => addW p v) = true
      · have HN : Hid (mvG l v = l.map fun p => addW p v) := by show _ = _; unfold mvG; rw [if_pos ⟨hv, ev⟩]
        have hL : Hid ((mvG l v).length = k) := by show _ = _; rw [HN.out]; exact hlen
        rw [ev]
        go_wp2_with fail
        go_ret
        exact ⟨_, rfl, by rw [hL.out, HN.out]; exact o1, hbel2⟩
      · have HN : Hid (mvG l v = []) := by show _ = _; unfold mvG; rw [if_neg (fun h => ev h.2)]
        have ev : allV (l.map fun p => addW p v) = false := by simpa using ev
        rw [ev]
        go_wp2_with fail
        go_ret
        exact ⟨_, rfl, by rw [HN.out]; exact OwnV.nil _ _ _ _, hbel2⟩
theorem impl_MovePolygonG (w : World) (B : Nat) (hB : B ≤ w.heap.size) (A : Option Addr) (n c : Nat) (l : List V2) (R : RdV w B A n l) (x y : Int) (hx : (Lit.int .i64 x).wf = true) (hy : (Lit.int .i64 y).wf = true) :
    Calls Try.prog 49 #[.slice A n c, .agg #[.int .i64 x, .int .i64 y]] w fun e w' => ∃ r, e = .returned r ∧ OwnV w' w.heap.size w'.heap.size 29 r (mvG l (x, y)).length (mvG l (x, y)) ∧ Below w.heap.size w w' := by
  obtain ⟨W0, hW0⟩ : ∃ W0, W0 = w.alloc (.cells #[.int .i64 x, .int .i64 y] 29) := ⟨_, rfl⟩
  have hT0 : Below w.heap.size w W0 := by rw [hW0]; exact below_new _ _
  have kv : Box W0 w.heap.size 29 #[.int .i64 x, .int .i64 y] := by rw [hW0]; exact Box.last _ _ _ rfl
  have HI := hide (impl_IsValidVec W0 x y hx hy)
  obtain ⟨v0, v1⟩ := kv.cells2
  by_cases hv : vecB x y = true
  case neg =>
    have hv : vecB x y = false := by simpa using hv
    have HN : Hid (mvG l (x, y) = []) := by show _ = _; unfold mvG; rw [if_neg (fun h => by have h1 := h.1; unfold vecV at h1; simp only at h1; rw [hv] at h1; cases h1)]
    rw [hv] at HI
    clear kv R hv hx hy
    go_enter Try.func49, Try.ntmps49
    go_upto_region 1 with fail
    rw [← hW0]
    clear hW0
    go_wp2_with fail
    refine HI.out.mono ?_
    rintro e w1 ⟨rfl, hb1⟩
    clear v0 v1
    go_wp2_with fail
    go_ret
    exact ⟨_, rfl, by rw [HN.out]; exact OwnV.nil _ _ _ _, below_then hT0 hb1⟩
  rw [hv] at HI
  have HC := hide (fun (W : World) (hb : Below W0.heap.size W0 W) => impl_changedMoveW W B (Nat.le_trans hB (Nat.le_trans hT0.size hb.size)) A n c l ((R.below (hT0.mono hB)).below (hb.mono (Nat.le_trans hB hT0.size))) (x, y) hv w.heap.size (kv.below hb kv.lt))
  clear kv R hv hx hy
  go_enter Try.func49, Try.ntmps49
  go_upto_region 1 with fail
  rw [← hW0]
  clear hW0
  go_wp2_with fail
  refine HI.out.mono ?_
  rintro e w1 ⟨rfl, hb1⟩
  clear v0 v1
  go_wp2_with fail
  refine (HC.out _ hb1).mono ?_
  rintro e w2 ⟨r, rfl, o, hb2⟩
  have hT1 := below_then hT0 hb1
  have o2 := o.wider (lo' := w.heap.size) (hi' := w2.heap.size) hT1.size (Nat.le_refl _)
  clear o
  go_wp2_with fail
  go_ret
  exact ⟨_, rfl, o2, below_then hT1 hb2⟩
end Go.Proofs.Ytocllmaikngoaaa
