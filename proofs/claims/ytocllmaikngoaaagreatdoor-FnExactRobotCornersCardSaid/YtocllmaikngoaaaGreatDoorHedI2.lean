/-
  The program's headings: contracts: the product of a matrix and a vector; TurnVec, TurnPolygon.
-/
import Derived.Test.YtocllmaikngoaaaGreatDoorHP
import Derived.Test.YtocllmaikngoaaaGreatDoorPL
namespace Go.Proofs.YtocllmaikngoaaaGreatDoor
open Go.RowKit
set_option linter.unusedVariables false
set_option maxRecDepth 100000 in
set_option maxHeartbeats 1600000 in
theorem impl_mtimes (w : World) (a b c d x y : Int) :
    Calls Tryz.prog 101 #[.agg #[.int .i64 a, .int .i64 b, .int .i64 c, .int .i64 d], .agg #[.int .i64 x, .int .i64 y]] w fun e w' => e = .returned (.agg #[.int .i64 (wrap64 (wrap64 (a * x) + wrap64 (c * y))), .int .i64 (wrap64 (wrap64 (b * x) + wrap64 (d * y)))]) ∧ Below w.heap.size w w' := by
  go_enter Tryz.func101, Tryz.ntmps101
  go_wp2_with fail
  generalize wrap64 (wrap64 (a * x) + wrap64 (c * y)) = u at *
  generalize wrap64 (wrap64 (b * x) + wrap64 (d * y)) = v at *
  refine bodyPost_ret (results_cell_row rfl _ _ (w.heap.size + 1 + 1) _ #[.int .i64 u, .int .i64 v] (0, 0) _ rfl (show Box _ _ 39 #[.int .i64 u, .int .i64 v] from Box.last _ _ _ (by rw [alloc_size, alloc_size])) Tryz.underlying39 rfl Tryz.sizeVec) rfl ?_
  exact ⟨rfl, below_alloc (below_alloc (below_new _ _) _) _⟩
theorem wrap_lin {p q x y : Int} (h : p = 0 ∨ q = 0) : wrap64 (wrap64 (p * x) + wrap64 (q * y)) = IntKind.i64.wrap (p * x + q * y) := by
  have e : ∀ z : Int, wrap64 z = IntKind.i64.wrap z := fun z => (IntWalk.i64_left z).symm
  have z0 : IntKind.i64.wrap 0 = 0 := by decide
  rw [e, e, e]
  rcases h with rfl | rfl
  · rw [Int.zero_mul, z0, Int.zero_add, Int.zero_add, wrap_keep (wrap_wf _ _)]
  · rw [Int.zero_mul, z0, Int.add_zero, Int.add_zero, wrap_keep (wrap_wf _ _)]
theorem q_axis {k : Nat} (h : k < 4) : ((qx k).1 = 0 ∨ (qy k).1 = 0) ∧ ((qx k).2 = 0 ∨ (qy k).2 = 0) := by
  rcases (show k = 0 ∨ k = 1 ∨ k = 2 ∨ k = 3 by omega) with rfl | rfl | rfl | rfl <;> decide
/-- a row of the table times a vector -/
theorem impl_mtimesQ (w : World) (k : Nat) (hk : k < 4) (x y : Int) :
    Calls Tryz.prog 101 #[.agg #[.int .i64 (qx k).1, .int .i64 (qx k).2, .int .i64 (qy k).1, .int .i64 (qy k).2], .agg #[.int .i64 x, .int .i64 y]] w fun e w' => e = .returned (.agg #[.int .i64 (rotW k (x, y)).1, .int .i64 (rotW k (x, y)).2]) ∧ Below w.heap.size w w' := by
  have h := impl_mtimes w (qx k).1 (qx k).2 (qy k).1 (qy k).2 x y
  rw [wrap_lin (q_axis hk).1, wrap_lin (q_axis hk).2] at h
  have e : rotW k (x, y) = (IntKind.i64.wrap ((qx k).1 * x + (qy k).1 * y), IntKind.i64.wrap ((qx k).2 * x + (qy k).2 * y)) := by unfold rotW; rw [rot_tab hk]
  rw [e]
  exact h
set_option maxRecDepth 100000 in
set_option maxHeartbeats 1600000 in
theorem impl_changedTurn (w : World) (B : Nat) (hB : B ≤ w.heap.size) (A : Option Addr) (n c : Nat) (l : List V2) (R : RdV w B A n l) (q : Nat) (hq : q < 4) :
    Calls Tryz.prog 56 #[.slice A n c, .func (.func 101) #[.agg #[.int .i64 (qx q).1, .int .i64 (qx q).2, .int .i64 (qy q).1, .int .i64 (qy q).2]] #[]] w fun e w' => ∃ v, e = .returned v ∧ OwnV w' w.heap.size w'.heap.size 39 v (turnQ l q).length (turnQ l q) ∧ Below w.heap.size w w' := by
  obtain ⟨hn, hx, hl, hwf⟩ := R
  obtain ⟨w0, hmk, hown0, hb0⟩ := Tryz.make0V w n hl
  have HQ := hide (fun (W : World) (x y : Int) => impl_mtimesQ W q hq x y)
  obtain ⟨f, hf⟩ : ∃ f, f = rotW q := ⟨_, rfl⟩
  rw [← hf] at HQ
  have HF := hide hf
  clear hf
  generalize (qx q).1 = q0 at *
  generalize (qx q).2 = q1 at *
  generalize (qy q).1 = q2 at *
  generalize (qy q).2 = q3 at *
  go_enter Tryz.func56, Tryz.ntmps56
  go_wp2_with fail
  go_loopw [5, 13] (fun v i wr => ∃ k : Nat, k ≤ n ∧ i = .int .i64 k ∧ wr.ownsRow w.heap.size 39 2 v k (fl ((l.take k).map f)) ∧ Below w.heap.size w wr) (fun _ i _ => n - (intOf i).toNat)
  case atStart => exact ⟨0, Nat.zero_le _, rfl, by simpa [fl] using hown0, hb0⟩
  case round =>
    clear hown0 hb0 hmk
    obtain ⟨k, hk, rfl, hown, hbel⟩ := hrel
    by_cases hlt : k < n
    · obtain ⟨ad, hA, hb1, hc1, hc2⟩ := (hx.below (hbel.mono hB)).vec (k := k) (by omega)
      have hkl : k < l.length := by omega
      have HV := hide (fun (W : World) => HQ.out W l[k].1 l[k].2)
      have HM := hide (map_take_snoc f hkl)
      have hbs := hbel.size
      generalize hv : l[k] = v0 at *
      obtain ⟨x0, y0⟩ := v0
      have HM2 : Hid (f l[k] = ((f (x0, y0)).1, (f (x0, y0)).2)) := by show _ = _; rw [hv]
      generalize (f (x0, y0)).1 = x1 at *
      generalize (f (x0, y0)).2 = y1 at *
      obtain ⟨W0, hW0⟩ : ∃ W0, W0 = wr.alloc (.cells #[.int .i64 x0, .int .i64 y0] 39) := ⟨_, rfl⟩
      have ka : Box W0 wr.heap.size 39 #[.int .i64 x0, .int .i64 y0] := by rw [hW0]; exact Box.last _ _ _ rfl
      have hT : Below wr.heap.size wr W0 := by rw [hW0]; exact below_new _ _
      subst hA
      go_upto_region 5 with fail
      rw [← hW0]
      clear hW0 hc1 hc2
      obtain ⟨ya0, ya1⟩ := ka.cells2
      go_wp2_with fail
      refine (HV.out _).mono ?_
      rintro e w1 ⟨rfl, hb1⟩
      clear ya0 ya1 HV
      have hT2 := hT.trans (hb1.mono hT.size)
      have hown2 := own_grown hown hT2
      have hbel2 := hbel.trans (hT2.mono hbs)
      have hbs2 := hbel2.size
      clear hown hT hT2 hb1
      go_wp2_with (at_builtin; refine wpList_append1 Tryz.sliceVec rfl _ _ rfl w1 w.heap.size _ _ _ hown2 rfl #[.int .i64 x1, .int .i64 y1] 1 rfl rfl (by simp [Value.oneCell']) (by omega) (by omega) (by omega) ?_; intro v' w2 hown3 hb2)
      go_roundw
      case rel => exact ⟨k + 1, by omega, by go_num, by rw [HM.out, fl_append, ← hv, HM2.out]; exact hown3, hbel2.trans hb2⟩
      case measure => simp [intOf]; omega
    · obtain rfl : k = n := by omega
      have e : (l.take k).map f = l.map f := by rw [List.take_of_length_le (by omega)]
      rw [e] at hown
      have hff : f = rotW q := HF.out
      obtain ⟨a1, a2⟩ := allV_rotW hq hwf
      rw [← hff] at a1 a2
      have hfw : wfV (l.map f) := by rw [hff]; exact rotW_wf q l
      have o := OwnV.of hown
      have hlen := o.len
      clear e hown hx
      obtain ⟨A1, c1, rfl⟩ := o.form
      have HA := hide (impl_areValidVecs wr wr.heap.size (Nat.le_refl _) A1 k c1 _ (o.rdV hl hfw))
      clear hff
      go_wp2_with fail
      refine HA.out.mono ?_
      rintro e w1 ⟨rfl, hb1⟩
      have o1 := (o.below hb1 (Nat.le_refl _)).wider (Nat.le_refl _) hb1.size
      have hbel2 := hbel.trans (hb1.mono hbel.size)
      clear HA o hb1
      rw [a1]
      by_cases ev : allV l = true
      · rw [ev]
        have HN : Hid (turnQ l q = l.map f) := by show _ = _; rw [turnQ_yes ev, a2 ev]
        have hL : Hid ((turnQ l q).length = k) := by show _ = _; rw [HN.out]; exact hlen
        clear a1 a2
        go_wp2_with fail
        go_ret
        exact ⟨_, rfl, by rw [hL.out, HN.out]; exact o1, hbel2⟩
      · have ev : allV l = false := by simpa using ev
        rw [ev]
        have HN : Hid (turnQ l q = []) := turnQ_no ev q
        clear a1 a2
        go_wp2_with fail
        go_ret
        exact ⟨_, rfl, by rw [HN.out]; exact OwnV.nil _ _ _ _, hbel2⟩
theorem impl_TurnPolygon (w : World) (B : Nat) (hB : B ≤ w.heap.size) (A : Option Addr) (n c : Nat) (l : List V2) (R : RdV w B A n l) (k : Int) (hQ : QTab w) :
    Calls Tryz.prog 61 #[.slice A n c, .int .i64 k] w fun e w' => ∃ v, e = .returned v ∧ OwnV w' w.heap.size w'.heap.size 39 v (turnL l k).length (turnL l k) ∧ Below w.heap.size w w' := by
  have HC := hide (impl_changedTurn w B hB A n c l R (hd k) (hd_lt k))
  have HH := hide (impl_headingAfter w k)
  obtain ⟨hg, hq⟩ := hQ
  obtain ⟨c0, c1, c2, c3⟩ := hq (hd k) (hd_lt k)
  have h4 := hd_lt k
  have HT : Hid (turnQ l (hd k) = turnL l k) := rfl
  rw [HT.out] at HC
  generalize hd k = q at *
  generalize (qx q).1 = q0 at *
  generalize (qx q).2 = q1 at *
  generalize (qy q).1 = q2 at *
  generalize (qy q).2 = q3 at *
  have h5 : (0 : Int) ≤ (q : Int) := Int.natCast_nonneg _
  have h6 : (q : Int) < 4 := by omega
  clear hq HT R
  go_enter Tryz.func61, Tryz.ntmps61
  go_wp2_with fail
  refine HH.out.mono ?_
  rintro e w1 ⟨rfl, rfl⟩
  go_wp2_with fail
  refine HC.out.mono ?_
  rintro e w1 ⟨v, rfl, o, hb⟩
  go_wp2_with fail
  go_ret
  exact ⟨_, rfl, o, hb⟩
end Go.Proofs.YtocllmaikngoaaaGreatDoor
