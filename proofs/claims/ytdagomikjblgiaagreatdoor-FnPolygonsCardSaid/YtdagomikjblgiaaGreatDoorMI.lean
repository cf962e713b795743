/-
  The texts MinI3, PolI3, MinI4, put together; each has its own heading below. No condition of ours.
-/
import Derived.Test.YtdagomikjblgiaaGreatDoorSPG
import Derived.Test.YtdagomikjblgiaaGreatDoorPolI
import Derived.Test.YtdagomikjblgiaaGreatDoorLB
import Derived.Test.YtdagomikjblgiaaGreatDoorHM
import Derived.Test.YtdagomikjblgiaaGreatDoorPI
/-
  The program's sums of polygons: contracts: WidthOf.
-/



namespace Go.Proofs.YtdagomikjblgiaaGreatDoor
open Go.RowKit
set_option linter.unusedVariables false
theorem results_cct {P : Program} {fn : Func} {p q u : Tmp} {ty : TypeId} (h : fn.results = #[.cell p ty, .cell q ty, .tmp u]) (tmps : Array Value) (w : World) (g g' : Nat) (t : TypeId) (cs ds : Array Value) (fr fr' : Nat × Nat) (d : TypeDesc)
    (hp : tmps.getD p undef = .pointer (some ⟨g, 0, none⟩)) (hq : tmps.getD q undef = .pointer (some ⟨g', 0, none⟩)) (hg : w.heap[g]? = some (.cells cs t fr)) (hg' : w.heap[g']? = some (.cells ds t fr'))
    (hu : P.underlying ty = some d) (hd : (match d with | .struct _ | .array _ _ => true | _ => false) = true) (hi : (P.info? ty).map (·.size) = some cs.size) (hi' : (P.info? ty).map (·.size) = some ds.size) :
    (results fn tmps).run P w = .ok (.tuple #[.agg cs, .agg ds, tmps.getD u undef]) w := by
  have hp' : tmps[p]?.getD undef = .pointer (some ⟨g, 0, none⟩) := by simpa using hp
  have hq' : tmps[q]?.getD undef = .pointer (some ⟨g', 0, none⟩) := by simpa using hq
  simp [results, h, hp', hq', asAddr, run_loadVar_row w g t ty cs fr d hg hu hd hi, run_loadVar_row w g' t ty ds fr' d hg' hu hd hi']
theorem box_val {w : World} {g : Nat} {E : TypeId} {a b a' b' : Int} (h : Box w g E #[.int .i64 a, .int .i64 b]) (ha : a = a') (hb : b = b') : Box w g E #[.int .i64 a', .int .i64 b'] := by subst ha hb; exact h
/-- two variables of two cells that a drawn region has made -/
def TwoVars (w wx : World) (sx sy : Value) (E : TypeId) (x y : Int) : Prop :=
  ∃ g g', sx = .pointer (some ⟨g, 0, none⟩) ∧ sy = .pointer (some ⟨g', 0, none⟩) ∧ Box wx g E #[.int .i64 x, .int .i64 y] ∧ Box wx g' E #[.int .i64 x, .int .i64 y] ∧ w.heap.size ≤ g ∧ w.heap.size ≤ g' ∧ g ≠ g' ∧ Below w.heap.size w wx
theorem twovars1 (w1 : World) (E : TypeId) (x y : Int) : TwoVars w1 ((w1.alloc (.cells #[.int .i64 x, .int .i64 y] E)).alloc (.cells #[.int .i64 x, .int .i64 y] E)).drew (.pointer (some ⟨w1.heap.size, 0, none⟩)) (.pointer (some ⟨w1.heap.size + 1, 0, none⟩)) E x y :=
  ⟨_, _, rfl, rfl, ((Box.last _ _ _ rfl).alloc _).drew, (Box.last _ _ _ (alloc_size _ _).symm).drew, Nat.le_refl _, Nat.le_succ _, by omega, (below_alloc (below_new _ _) _).drew⟩
theorem twovars2 (w1 : World) (E : TypeId) (x y : Int) : TwoVars w1 ((w1.alloc (.cells #[.int .i64 x, .int .i64 y] E)).alloc (.cells #[.int .i64 x, .int .i64 y] E)).drew (.pointer (some ⟨w1.heap.size + 1, 0, none⟩)) (.pointer (some ⟨w1.heap.size, 0, none⟩)) E x y :=
  ⟨_, _, rfl, rfl, (Box.last _ _ _ (alloc_size _ _).symm).drew, ((Box.last _ _ _ rfl).alloc _).drew, Nat.le_succ _, Nat.le_refl _, by omega, (below_alloc (below_new _ _) _).drew⟩
/-- both results, stored in either order -/
theorem store_two {w W : World} {g g' : Nat} {E : TypeId} {a b c d x y u v : Value} (hk : Box W g E #[a, b]) (hk' : Box W g' E #[c, d]) (hb : Below w.heap.size w W) (hg : w.heap.size ≤ g) (hg' : w.heap.size ≤ g') (hne : g ≠ g') :
    Box ((((W.setCell ⟨g, 0, none⟩ x).setCell ⟨g, 1, none⟩ y).setCell ⟨g', 0, none⟩ u).setCell ⟨g', 1, none⟩ v) g E #[x, y] ∧ Box ((((W.setCell ⟨g, 0, none⟩ x).setCell ⟨g, 1, none⟩ y).setCell ⟨g', 0, none⟩ u).setCell ⟨g', 1, none⟩ v) g' E #[u, v] ∧
    Below w.heap.size w ((((W.setCell ⟨g, 0, none⟩ x).setCell ⟨g, 1, none⟩ y).setCell ⟨g', 0, none⟩ u).setCell ⟨g', 1, none⟩ v) :=
  ⟨((hk.set2 x y).setv hne 0 u).setv hne 1 v, ((hk'.setv (Ne.symm hne) 0 x).setv (Ne.symm hne) 1 y).set2 u v, below_set2 (below_set2 hb hg x y) hg' u v⟩
set_option maxRecDepth 100000 in
set_option maxHeartbeats 3200000 in
theorem impl_WidthOf (w : World) (B : Nat) (hB : B ≤ w.heap.size) (A : Option Addr) (n c : Nat) (l : List V2) (R : RdV w B A n l) :
    Calls Tryz.prog 9 #[.slice A n c] w fun e w' => e = .returned (.tuple #[.agg #[.int .i64 (loB l).1, .int .i64 (loB l).2], .agg #[.int .i64 (hiB l).1, .int .i64 (hiB l).2], .bool (polyB l)]) ∧ Below w.heap.size w w' := by
  obtain ⟨W0, hW0⟩ : ∃ W0, W0 = (w.alloc (.cells #[.int .i64 0, .int .i64 0] 26)).alloc (.cells #[.int .i64 0, .int .i64 0] 26) := ⟨_, rfl⟩
  have hT0 : Below w.heap.size w W0 := by rw [hW0]; exact below_alloc (below_new _ _) _
  have k2 : Box W0 w.heap.size 26 #[.int .i64 0, .int .i64 0] := by rw [hW0]; exact (Box.last _ _ _ rfl).alloc _
  have k3 : Box W0 (w.heap.size + 1) 26 #[.int .i64 0, .int .i64 0] := by rw [hW0]; exact Box.last _ _ _ (alloc_size _ _).symm
  have R0 := R.below (hT0.mono hB)
  have HP := hide (impl_IsPolygon W0 B (Nat.le_trans hB hT0.size) A n c l R0)
  have hs0 : w.heap.size + 2 ≤ W0.heap.size := by rw [hW0, alloc_size, alloc_size]; omega
  clear R
  cases ep : polyB l with
  | false =>
    have H1 := hide (loB_no ep)
    have H2 := hide (hiB_no ep)
    rw [ep] at HP
    clear R0 ep
    go_enter Tryz.func9, Tryz.ntmps9
    go_upto_region 1 with fail
    rw [← hW0]
    clear hW0
    go_wp2_with fail
    refine HP.out.mono ?_
    rintro e w1 ⟨rfl, hb1⟩
    have k2' := k2.below hb1 k2.lt
    have k3' := k3.below hb1 k3.lt
    have HK2 := hide k2'
    have HK3 := hide k3'
    obtain ⟨a0, a1, a2, a3⟩ := k2'.facts
    obtain ⟨b0, b1, b2, b3⟩ := k3'.facts
    have hT1 := below_then hT0 hb1
    clear HP k2 k3 k2' k3' hb1 hs0 hT0
    go_wp2_with fail
    rw [H1.out, H2.out]
    refine bodyPost_ret (results_cct rfl _ _ w.heap.size (w.heap.size + 1) _ #[.int .i64 0, .int .i64 0] #[.int .i64 0, .int .i64 0] (0, 0) (0, 0) _ rfl rfl (show Box _ _ 26 #[.int .i64 0, .int .i64 0] from (((HK2.out.set2 _ _).setv (by omega) _ _).setv (by omega) _ _)) (show Box _ _ 26 #[.int .i64 0, .int .i64 0] from (((HK3.out.setv (by omega) _ _).setv (by omega) _ _).set2 _ _)) Tryz.underlying26 rfl Tryz.sizeVec Tryz.sizeVec) rfl ?_
    exact ⟨rfl, below_set2 (below_set2 hT1 (Nat.le_refl _) _ _) (Nat.le_succ _) _ _⟩
  | true =>
    have hpp := polyB_iff.1 ep
    have h3 := hpp.1
    have H1 := hide (loB_is ep)
    have H2 := hide (hiB_is ep)
    rw [ep] at HP
    obtain ⟨hn, hx, hl, hwf⟩ := R0
    have HV := hide (fun k (hk : k ≤ l.length) => And.intro (vecB_bounds (loN_vec hpp hk)) (vecB_bounds (hiN_vec hpp hk)))
    have HVX := hide (fun k (hk : k < l.length) => vecB_bounds (poly_vec hpp hk))
    clear ep hpp
    go_enter Tryz.func9, Tryz.ntmps9
    go_upto_region 1 with fail
    rw [← hW0]
    clear hW0
    go_wp2_with fail
    refine HP.out.mono ?_
    rintro e w1 ⟨rfl, hb1⟩
    have k2' := k2.below hb1 k2.lt
    have k3' := k3.below hb1 k3.lt
    have hT1 := below_then hT0 hb1
    have hs1 : w.heap.size + 2 ≤ w1.heap.size := Nat.le_trans hs0 hb1.size
    have hx1 := hx.below (hb1.mono (Nat.le_trans hB hT0.size))
    clear HP k2 k3 hb1 hs0 hT0 hx
    go_upto_region 3 with fail
    obtain ⟨ad, hA, hba, hc1, hc2⟩ := hx1.vec (k := 0) (by omega)
    have e0 : ad.add (0 * 2) = ad := add_zero' ad
    rw [e0] at hc1 hc2
    clear e0
    have hL0 : Hid (l[0]'(by omega) = atV l 0) := (atV_eq (by omega)).symm
    rw [hL0.out] at hc1 hc2
    clear hL0
    subst hA
    have hi0 : 0 < n := by omega
    have hi1 : (0 : Int) < (n : Int) := by omega
    have hba1 : ad.block < w1.heap.size := by omega
    go_cut [5, 6] from 14 to 19 (fun sx sy wx => TwoVars w1 wx sx sy 26 (atV l 0).1 (atV l 0).2)
    case first =>
      generalize (atV l 0).1 = x0 at *
      generalize (atV l 0).2 = y0 at *
      go_region_with (fail)
      all_goals
        go_wp2_with fail
        go_meet
        case rel => first | exact twovars1 _ _ _ _ | exact twovars2 _ _ _ _
    case rest =>
      obtain ⟨g5, g6, rfl, rfl, k5, k6, h5, h6, h56, hb1⟩ := hcut
      clear hc1 hc2
      obtain ⟨V1, hV⟩ : ∃ x, x = wc := ⟨_, rfl⟩
      subst hV
      go_wp2_with fail
      go_loopw [22] (fun i wr => ∃ k : Nat, k ≤ n ∧ i = .int .i64 k ∧ Box wr g5 26 #[.int .i64 (loN l k).1, .int .i64 (loN l k).2] ∧ Box wr g6 26 #[.int .i64 (hiN l k).1, .int .i64 (hiN l k).2] ∧ Below w1.heap.size w1 wr) (fun i _ => n - (intOf i).toNat)
      case atStart => exact ⟨0, Nat.zero_le _, rfl, k5, k6, hb1⟩
      case round =>
        clear k5 k6 hb1
        obtain ⟨k, hk, rfl, k5, k6, hbel⟩ := hrel
        have hv5 := HV.out k (by omega)
        by_cases hlt : k < n
        · obtain ⟨ae, hE, hbb, hc1, hc2⟩ := (hx1.below (hbel.mono (Nat.le_trans hB (by have := hT1.size; omega)))).vec (k := k) (by omega)
          have hkl : k < l.length := by omega
          have hvx := HVX.out k hkl
          have HL1 : Hid (loN l (k + 1) = (min (loN l k).1 (atV l k).1, min (loN l k).2 (atV l k).2)) := rfl
          have HL2 : Hid (hiN l (k + 1) = (max (hiN l k).1 (atV l k).1, max (hiN l k).2 (atV l k).2)) := rfl
          have ea := atV_eq hkl
          rw [← ea] at hc1 hc2
          clear ea
          generalize (atV l k).1 = x0 at *
          generalize (atV l k).2 = y0 at *
          generalize (loN l k).1 = a0 at *
          generalize (loN l k).2 = a1 at *
          generalize (hiN l k).1 = b0 at *
          generalize (hiN l k).2 = b1 at *
          obtain ⟨W1, hW1⟩ : ∃ W1, W1 = wr.alloc (.cells #[.int .i64 x0, .int .i64 y0] 26) := ⟨_, rfl⟩
          have kx : Box W1 wr.heap.size 26 #[.int .i64 x0, .int .i64 y0] := by rw [hW1]; exact Box.last _ _ _ rfl
          have k5' : Box W1 g5 26 #[.int .i64 a0, .int .i64 a1] := by rw [hW1]; exact k5.alloc _
          have k6' : Box W1 g6 26 #[.int .i64 b0, .int .i64 b1] := by rw [hW1]; exact k6.alloc _
          have hbW : Below w1.heap.size w1 W1 := by rw [hW1]; exact below_alloc hbel _
          have hn5 : g5 ≠ wr.heap.size := by have := k5.lt; omega
          have hn6 : g6 ≠ wr.heap.size := by have := k6.lt; omega
          clear k5 k6 hbel
          cases hE
          go_upto_region 7 with fail
          rw [← hW1]
          clear hW1 hc1 hc2
          have HK5 := hide k5'
          have HK6 := hide k6'
          have HKX := hide kx
          obtain ⟨p0, p1, p2, p3⟩ := k5'.facts
          obtain ⟨x0', x1', -, -⟩ := kx.facts
          clear k5' k6' kx
          go_upto_region 8 with fail
          first
            | (obtain ⟨W2, hW2⟩ : ∃ W2, W2 = (W1.setCell ⟨g5, 0, none⟩ (.int .i64 (if x0 < a0 then x0 else a0))).setCell ⟨g5, 1, none⟩ (.int .i64 (if y0 < a1 then y0 else a1)) := ⟨_, rfl⟩; have j5 : Box W2 g5 26 #[.int .i64 (if x0 < a0 then x0 else a0), .int .i64 (if y0 < a1 then y0 else a1)] := (by rw [hW2]; exact HK5.out.set2 _ _); have j6 : Box W2 g6 26 #[.int .i64 b0, .int .i64 b1] := (by rw [hW2]; exact (HK6.out.setv (Ne.symm h56) _ _).setv (Ne.symm h56) _ _); have jx : Box W2 wr.heap.size 26 #[.int .i64 x0, .int .i64 y0] := (by rw [hW2]; exact (HKX.out.setv (Ne.symm hn5) _ _).setv (Ne.symm hn5) _ _); have hbW2 : Below w1.heap.size w1 W2 := (by rw [hW2]; exact below_set2 hbW h5 _ _); rw [← hW2]; have j5' := box_val j5 (a' := (loN l (k + 1)).1) (b' := (loN l (k + 1)).2) (by rw [HL1.out]; show _ = min a0 x0; split <;> omega) (by rw [HL1.out]; show _ = min a1 y0; split <;> omega))
            | (obtain ⟨W2, hW2⟩ : ∃ W2, W2 = (W1.setCell ⟨g5, 0, none⟩ (.int .i64 (min a0 x0))).setCell ⟨g5, 1, none⟩ (.int .i64 (min a1 y0)) := ⟨_, rfl⟩; have j5 : Box W2 g5 26 #[.int .i64 (min a0 x0), .int .i64 (min a1 y0)] := (by rw [hW2]; exact HK5.out.set2 _ _); have j6 : Box W2 g6 26 #[.int .i64 b0, .int .i64 b1] := (by rw [hW2]; exact (HK6.out.setv (Ne.symm h56) _ _).setv (Ne.symm h56) _ _); have jx : Box W2 wr.heap.size 26 #[.int .i64 x0, .int .i64 y0] := (by rw [hW2]; exact (HKX.out.setv (Ne.symm hn5) _ _).setv (Ne.symm hn5) _ _); have hbW2 : Below w1.heap.size w1 W2 := (by rw [hW2]; exact below_set2 hbW h5 _ _); rw [← hW2]; have j5' := box_val j5 (a' := (loN l (k + 1)).1) (b' := (loN l (k + 1)).2) (by rw [HL1.out]) (by rw [HL1.out]))
          clear hW2 hbW HK5 HK6 HKX p0 p1 p2 p3 x0' x1' j5 HL1
          have HK5 := hide j5'
          have HK6 := hide j6
          obtain ⟨p0, p1, p2, p3⟩ := j6.facts
          obtain ⟨x0', x1', -, -⟩ := jx.facts
          clear j5' j6 jx
          go_wp2_with fail
          go_roundw
          case rel =>
            refine ⟨k + 1, by omega, by go_num, (HK5.out.setv h56 _ _).setv h56 _ _, box_val (HK6.out.set2 _ _) ?_ ?_, below_set2 hbW2 h6 _ _⟩
            · first | (rw [HL2.out]; show _ = max b0 x0; split <;> omega) | rw [HL2.out]
            · first | (rw [HL2.out]; show _ = max b1 y0; split <;> omega) | rw [HL2.out]
          case measure => simp [intOf]; omega
        · obtain rfl : k = n := by omega
          have hkk : k = l.length := hn.symm
          rw [hkk] at k5 k6
          rw [← H1.out] at k5
          rw [← H2.out] at k6
          have q2 := k2'.below hbel k2'.lt
          have q3 := k3'.below hbel k3'.lt
          have hT2 := below_then hT1 hbel
          have HQ2 := hide q2
          have HQ3 := hide q3
          obtain ⟨a0, a1, a2, a3⟩ := q2.facts
          obtain ⟨b0, b1, b2, b3⟩ := q3.facts
          obtain ⟨p0, p1, -, -⟩ := k5.facts
          obtain ⟨x0', x1', -, -⟩ := k6.facts
          clear k2' k3' q2 q3 k5 k6 hx1 hbel hkk
          go_wp2_with fail
          go_region_with (fail)
          all_goals
            go_wp2_with fail
            obtain ⟨s1, s2, s3⟩ := store_two (x := .int .i64 (loB l).1) (y := .int .i64 (loB l).2) (u := .int .i64 (hiB l).1) (v := .int .i64 (hiB l).2) HQ2.out HQ3.out hT2 (Nat.le_refl _) (Nat.le_succ _) (by omega)
            refine bodyPost_ret (results_cct rfl _ _ w.heap.size (w.heap.size + 1) _ #[.int .i64 (loB l).1, .int .i64 (loB l).2] #[.int .i64 (hiB l).1, .int .i64 (hiB l).2] (0, 0) (0, 0) _ rfl rfl (show Box _ _ 26 _ from s1.drew) (show Box _ _ 26 _ from s2.drew) Tryz.underlying26 rfl Tryz.sizeVec Tryz.sizeVec) rfl ?_
            exact ⟨rfl, s3.drew⟩
end Go.Proofs.YtdagomikjblgiaaGreatDoor

/-
  The program's polygons: contracts: areValidVecs, NegatePolygon.
-/



namespace Go.Proofs.YtdagomikjblgiaaGreatDoor
open Go.RowKit
set_option linter.unusedVariables false
set_option maxRecDepth 100000 in
set_option maxHeartbeats 1600000 in
theorem impl_areValidVecs (w : World) (B : Nat) (hB : B ≤ w.heap.size) (A : Option Addr) (n c : Nat) (l : List V2) (R : RdV w B A n l) :
    Calls Tryz.prog 41 #[.slice A n c] w fun e w' => e = .returned (.bool (allV l)) ∧ Below w.heap.size w w' := by
  obtain ⟨hn, hx, hl, hwf⟩ := R
  go_enter Tryz.func41, Tryz.ntmps41
  go_wp2_with fail
  go_loopw [7] (fun i wr => ∃ k : Nat, k ≤ n ∧ i = .int .i64 k ∧ Hid (∀ j (h : j < l.length), j < k → vecV l[j] = true) ∧ Below w.heap.size w wr) (fun i _ => n - (intOf i).toNat)
  case atStart => exact ⟨0, Nat.zero_le _, rfl, fun j _ h => absurd h (Nat.not_lt_zero _), Below.refl _ _⟩
  case round =>
    obtain ⟨k, hk, rfl, H, hbel⟩ := hrel
    by_cases hlt : k < n
    · obtain ⟨ad, hA, hb1, hc1, hc2⟩ := (hx.below (hbel.mono hB)).vec (k := k) (by omega)
      have hkl : k < l.length := by omega
      obtain ⟨f1, f2⟩ := wfV_at hwf hkl
      have HV := hide (fun (W : World) => impl_IsValidVec W l[k].1 l[k].2 f1 f2)
      have hbs := hbel.size
      generalize hv : l[k] = v0 at *
      obtain ⟨x0, y0⟩ := v0
      obtain ⟨W0, hW0⟩ : ∃ W0, W0 = wr.alloc (.cells #[.int .i64 x0, .int .i64 y0] 26) := ⟨_, rfl⟩
      have ka : Box W0 wr.heap.size 26 #[.int .i64 x0, .int .i64 y0] := by rw [hW0]; exact Box.last _ _ _ rfl
      have hT : Below wr.heap.size wr W0 := by rw [hW0]; exact below_new _ _
      subst hA
      go_upto_region 4 with fail
      rw [← hW0]
      clear hW0 hc1 hc2
      obtain ⟨ya0, ya1⟩ := ka.cells2
      go_wp2_with fail
      refine (HV.out _).mono ?_
      rintro e w1 ⟨rfl, hb1⟩
      clear ya0 ya1 HV
      have hT2 := hT.trans (hb1.mono hT.size)
      have hbel2 := hbel.trans (hT2.mono hbs)
      clear hT hT2 hb1
      by_cases ev : vecB x0 y0 = true
      case neg =>
        have ev : vecB x0 y0 = false := by simpa using ev
        have HN : Hid (allV l = false) := allV_no hkl (by rw [hv]; exact ev)
        rw [ev]
        go_wp2_with fail
        go_ret
        exact ⟨ret_bool HN.out.symm, hbel2⟩
      rw [ev]
      have HN : Hid (∀ j (h : j < l.length), j < k + 1 → vecV l[j] = true) := fun j h hj => by
        by_cases e : j = k
        · subst e; rw [hv]; exact ev
        · exact H.out j h (by omega)
      clear H
      go_wp2_with fail
      go_roundw
      case rel => exact ⟨k + 1, by omega, by go_num, HN, hbel2⟩
      case measure => simp [intOf]; omega
    · obtain rfl : k = n := by omega
      have HN : Hid (allV l = true) := List.all_eq_true.2 fun v hv => by obtain ⟨j, hj, rfl⟩ := List.getElem_of_mem hv; exact H.out j hj (by omega)
      clear hx H
      go_wp2_with fail
      go_ret
      exact ⟨ret_bool HN.out.symm, hbel⟩
theorem wrap_wf (k : IntKind) (n : Int) : (Lit.int k (k.wrap n)).wf = true := by
  have := wrap_within k n
  simp [Lit.wf, this.1, this.2]
/-- each corner negated; -2^63 stays -/
def ngW (v : V2) : V2 := (IntKind.i64.wrap (-v.1), IntKind.i64.wrap (-v.2))
theorem ngw_cases {x : Int} (h : (Lit.int .i64 x).wf = true) : IntKind.i64.wrap (-x) = -x ∨ (x = -9223372036854775808 ∧ IntKind.i64.wrap (-x) = -9223372036854775808) := by
  obtain ⟨a1, a2⟩ := bounds_i64 h
  by_cases e : x = -9223372036854775808
  · subst e; exact .inr ⟨rfl, by decide⟩
  · exact .inl (IntWalk.i64_in _ (by omega))
theorem ngW_vec {v : V2} (h1 : (Lit.int .i64 v.1).wf = true) (h2 : (Lit.int .i64 v.2).wf = true) : vecV (ngW v) = vecV v ∧ (vecV v = true → ngW v = ng v) := by
  have e : ∀ x : Int, x = -9223372036854775808 → ∀ y, vecB x y = false ∧ vecB y x = false := by
    intro x hx y
    subst hx
    constructor <;> simp [vecB]
  rcases ngw_cases h1 with a | ⟨a, a'⟩
  · rcases ngw_cases h2 with b | ⟨b, b'⟩
    · refine ⟨?_, fun _ => by unfold ngW ng; rw [a, b]⟩
      unfold vecV ngW
      rw [a, b, Bool.eq_iff_iff]
      unfold vecB
      simp
      omega
    · unfold vecV ngW
      rw [b', (e _ rfl _).2, (e _ b _).2]
      exact ⟨rfl, fun h => by cases h⟩
  · unfold vecV ngW
    rw [a', (e _ rfl _).1, (e _ a _).1]
    exact ⟨rfl, fun h => by cases h⟩
theorem ngW_wf (l : List V2) : wfV (l.map ngW) := fun v hv => by
  obtain ⟨u, _, rfl⟩ := List.mem_map.1 hv
  exact ⟨wrap_wf _ _, wrap_wf _ _⟩
theorem allV_ngW : ∀ {l : List V2}, wfV l → allV (l.map ngW) = allV l ∧ (allV l = true → l.map ngW = l.map ng) := by
  intro l
  induction l with
  | nil => intro _; exact ⟨rfl, fun _ => rfl⟩
  | cons v l ih =>
    intro h
    obtain ⟨i1, i2⟩ := ih fun u hu => h u (List.mem_cons_of_mem _ hu)
    obtain ⟨j1, j2⟩ := ngW_vec (h v (by simp)).1 (h v (by simp)).2
    have e1 : allV ((v :: l).map ngW) = (vecV (ngW v) && allV (l.map ngW)) := rfl
    have e2 : allV (v :: l) = (vecV v && allV l) := rfl
    rw [e1, e2, i1, j1]
    refine ⟨rfl, fun hh => ?_⟩
    simp only [Bool.and_eq_true] at hh
    rw [List.map_cons, List.map_cons, i2 hh.2, j2 hh.1]
theorem impl_neg1 (w : World) (x y : Int) (hx : (Lit.int .i64 x).wf = true) (hy : (Lit.int .i64 y).wf = true) :
    Calls Tryz.prog 30 #[.agg #[.int .i64 x, .int .i64 y]] w fun e w' => e = .returned (.agg #[.int .i64 (IntKind.i64.wrap (-x)), .int .i64 (IntKind.i64.wrap (-y))]) ∧ Below w.heap.size w w' := by
  have e : ∀ z : Int, wrap64 z = IntKind.i64.wrap z := fun z => (IntWalk.i64_left z).symm
  go_enter Tryz.func30, Tryz.ntmps30
  go_wp2_with fail
  rw [e, e]
  refine bodyPost_ret (results_cell_row rfl _ _ (w.heap.size + 1) _ #[.int .i64 (IntKind.i64.wrap (-x)), .int .i64 (IntKind.i64.wrap (-y))] (0, 0) _ rfl (show Box _ _ 26 #[.int .i64 (IntKind.i64.wrap (-x)), .int .i64 (IntKind.i64.wrap (-y))] from Box.last _ _ _ (alloc_size _ _).symm) Tryz.underlying26 rfl Tryz.sizeVec) rfl ?_
  · exact ⟨rfl, below_alloc (below_new _ _) _⟩
set_option maxRecDepth 100000 in
set_option maxHeartbeats 1600000 in
theorem impl_changedNeg (w : World) (B : Nat) (hB : B ≤ w.heap.size) (A : Option Addr) (n c : Nat) (l : List V2) (R : RdV w B A n l) :
    Calls Tryz.prog 20 #[.slice A n c, .func (.func 30) #[] #[]] w fun e w' => ∃ v, e = .returned v ∧ OwnV w' w.heap.size w'.heap.size 26 v (negL l).length (negL l) ∧ Below w.heap.size w w' := by
  obtain ⟨hn, hx, hl, hwf⟩ := R
  obtain ⟨w0, hmk, hown0, hb0⟩ := Tryz.make0V w n hl
  go_enter Tryz.func20, Tryz.ntmps20
  go_wp2_with fail
  go_loopw [5, 13] (fun v i wr => ∃ k : Nat, k ≤ n ∧ i = .int .i64 k ∧ wr.ownsRow w.heap.size 26 2 v k (fl ((l.take k).map ngW)) ∧ Below w.heap.size w wr) (fun _ i _ => n - (intOf i).toNat)
  case atStart => exact ⟨0, Nat.zero_le _, rfl, by simpa [fl] using hown0, hb0⟩
  case round =>
    clear hown0 hb0 hmk
    obtain ⟨k, hk, rfl, hown, hbel⟩ := hrel
    by_cases hlt : k < n
    · obtain ⟨ad, hA, hb1, hc1, hc2⟩ := (hx.below (hbel.mono hB)).vec (k := k) (by omega)
      have hkl : k < l.length := by omega
      obtain ⟨f1, f2⟩ := wfV_at hwf hkl
      have HV := hide (fun (W : World) => impl_neg1 W l[k].1 l[k].2 f1 f2)
      have HM := hide (map_take_snoc ngW hkl)
      have hbs := hbel.size
      generalize hv : l[k] = v0 at *
      obtain ⟨x0, y0⟩ := v0
      have HM2 : Hid (ngW l[k] = (IntKind.i64.wrap (-x0), IntKind.i64.wrap (-y0))) := by show _ = _; rw [hv]; rfl
      generalize IntKind.i64.wrap (-x0) = x1 at *
      generalize IntKind.i64.wrap (-y0) = y1 at *
      obtain ⟨W0, hW0⟩ : ∃ W0, W0 = wr.alloc (.cells #[.int .i64 x0, .int .i64 y0] 26) := ⟨_, rfl⟩
      have ka : Box W0 wr.heap.size 26 #[.int .i64 x0, .int .i64 y0] := by rw [hW0]; exact Box.last _ _ _ rfl
      have hT : Below wr.heap.size wr W0 := by rw [hW0]; exact below_new _ _
      subst hA
      go_upto_region 5 with fail
      rw [← hW0]
      clear hW0 hc1 hc2
      obtain ⟨ya0, ya1⟩ := ka.cells2
      go_wp2_with fail
      refine (HV.out _).mono ?_
      rintro e w1 ⟨rfl, hb1⟩
      clear ya0 ya1 HV
      have hT2 := hT.trans (hb1.mono hT.size)
      have hown2 := own_grown hown hT2
      have hbel2 := hbel.trans (hT2.mono hbs)
      have hbs2 := hbel2.size
      clear hown hT hT2 hb1
      go_wp2_with (at_builtin; refine wpList_append1 Tryz.sliceVec rfl _ _ rfl w1 w.heap.size _ _ _ hown2 rfl #[.int .i64 x1, .int .i64 y1] 1 rfl rfl (by simp [Value.oneCell']) (by omega) (by omega) (by omega) ?_; intro v' w2 hown3 hb2)
      go_roundw
      case rel => exact ⟨k + 1, by omega, by go_num, by rw [HM.out, fl_append, ← hv, HM2.out]; exact hown3, hbel2.trans hb2⟩
      case measure => simp [intOf]; omega
    · obtain rfl : k = n := by omega
      have e : (l.take k).map ngW = l.map ngW := by rw [List.take_of_length_le (by omega)]
      rw [e] at hown
      obtain ⟨a1, a2⟩ := allV_ngW hwf
      have o := OwnV.of hown
      have hlen := o.len
      clear e hown hx
      obtain ⟨A1, c1, rfl⟩ := o.form
      have HA := hide (impl_areValidVecs wr wr.heap.size (Nat.le_refl _) A1 k c1 _ (o.rdV hl (ngW_wf l)))
      go_wp2_with fail
      refine HA.out.mono ?_
      rintro e w1 ⟨rfl, hb1⟩
      have o1 := (o.below hb1 (Nat.le_refl _)).wider (Nat.le_refl _) hb1.size
      have hbel2 := hbel.trans (hb1.mono hbel.size)
      clear HA o hb1
      rw [a1]
      by_cases ev : allV l = true
      · rw [ev]
        have HN : Hid (negL l = l.map ngW) := by show _ = _; unfold negL; rw [if_pos ev, a2 ev]
        have hL : Hid ((negL l).length = k) := by show _ = _; rw [HN.out]; exact hlen
        clear a1 a2
        go_wp2_with fail
        go_ret
        exact ⟨_, rfl, by rw [hL.out, HN.out]; exact o1, hbel2⟩
      · have ev : allV l = false := by simpa using ev
        rw [ev]
        have HN : Hid (negL l = []) := by show _ = _; unfold negL; rw [ev]; rfl
        clear a1 a2
        go_wp2_with fail
        go_ret
        exact ⟨_, rfl, by rw [HN.out]; exact OwnV.nil _ _ _ _, hbel2⟩
theorem impl_NegatePolygon (w : World) (B : Nat) (hB : B ≤ w.heap.size) (A : Option Addr) (n c : Nat) (l : List V2) (R : RdV w B A n l) :
    Calls Tryz.prog 13 #[.slice A n c] w fun e w' => ∃ v, e = .returned v ∧ OwnV w' w.heap.size w'.heap.size 26 v (negL l).length (negL l) ∧ Below w.heap.size w w' := by
  have HC := hide (impl_changedNeg w B hB A n c l R)
  go_enter Tryz.func13, Tryz.ntmps13
  go_wp2_with fail
  refine HC.out.mono ?_
  rintro e w1 ⟨v, rfl, o, hb⟩
  go_wp2_with fail
  go_ret
  exact ⟨_, rfl, o, hb⟩
end Go.Proofs.YtdagomikjblgiaaGreatDoor

/-
  The program's sums of polygons: contracts: sumOf, MovePolygon of valid corners, MoveToOrigin.
-/


namespace Go.Proofs.YtdagomikjblgiaaGreatDoor
open Go.RowKit
set_option linter.unusedVariables false
theorem impl_sumOf (w : World) (x y u v : Int) (h1 : vecB x y = true) (h2 : vecB u v = true) :
    Calls Tryz.prog 22 #[.agg #[.int .i64 x, .int .i64 y], .agg #[.int .i64 u, .int .i64 v]] w fun e w' => e = .returned (.agg #[.int .i64 (x + u), .int .i64 (y + v)]) ∧ Below w.heap.size w w' := by
  have g1 := vecB_bounds h1
  have g2 := vecB_bounds h2
  clear h1 h2
  go_enter Tryz.func22, Tryz.ntmps22
  go_wp2_with fail
  refine bodyPost_ret (results_cell_row rfl _ _ (w.heap.size + 2) _ #[.int .i64 (x + u), .int .i64 (y + v)] (0, 0) _ rfl (show Box _ _ 26 #[.int .i64 (x + u), .int .i64 (y + v)] from Box.last _ _ _ (by rw [alloc_size, alloc_size])) Tryz.underlying26 rfl Tryz.sizeVec) rfl ?_
  exact ⟨rfl, below_alloc (below_alloc (below_new _ _) _) _⟩
set_option maxHeartbeats 1600000 in
theorem impl_move1 (w : World) (gv : Nat) (x y u v : Int) (h1 : vecB x y = true) (h2 : vecB u v = true) (kv : Box w gv 26 #[.int .i64 u, .int .i64 v]) :
    Calls Tryz.prog 21 #[.agg #[.int .i64 x, .int .i64 y], .pointer (some ⟨gv, 0, none⟩)] w fun e w' => e = .returned (.agg #[.int .i64 (x + u), .int .i64 (y + v)]) ∧ Below w.heap.size w w' := by
  have HS := hide (fun (W : World) => impl_sumOf W x y u v h1 h2)
  obtain ⟨W0, hW0⟩ : ∃ W0, W0 = (w.alloc (.cells #[.int .i64 x, .int .i64 y] 26)).alloc (.cells #[.int .i64 0, .int .i64 0] 26) := ⟨_, rfl⟩
  have hT0 : Below w.heap.size w W0 := by rw [hW0]; exact below_alloc (below_new _ _) _
  have kx : Box W0 w.heap.size 26 #[.int .i64 x, .int .i64 y] := by rw [hW0]; exact (Box.last _ _ _ rfl).alloc _
  have kr : Box W0 (w.heap.size + 1) 26 #[.int .i64 0, .int .i64 0] := by rw [hW0]; exact Box.last _ _ _ (alloc_size _ _).symm
  have kv0 : Box W0 gv 26 #[.int .i64 u, .int .i64 v] := by rw [hW0]; exact (kv.alloc _).alloc _
  clear kv h1 h2
  generalize x + u = s at *
  generalize y + v = t at *
  go_enter Tryz.func21, Tryz.ntmps21
  go_upto_region 1 with fail
  rw [← hW0]
  clear hW0
  obtain ⟨x0, x1⟩ := kx.cells2
  obtain ⟨v0, v1⟩ := kv0.cells2
  clear kx kv0
  go_wp2_with fail
  refine (HS.out _).mono ?_
  rintro e w1 ⟨rfl, hb1⟩
  have kr1 := kr.below hb1 kr.lt
  have HKR := hide kr1
  obtain ⟨r0, r1, r2, r3⟩ := kr1.facts
  have hT1 := below_then hT0 hb1
  clear HS kr kr1 x0 x1 v0 v1 hb1
  go_wp2_with fail
  refine bodyPost_ret (results_cell_row rfl _ _ (w.heap.size + 1) _ #[.int .i64 s, .int .i64 t] (0, 0) _ rfl (show Box _ _ 26 #[.int .i64 s, .int .i64 t] from HKR.out.set2 _ _) Tryz.underlying26 rfl Tryz.sizeVec) rfl ?_
  exact ⟨rfl, below_set2 hT1 (Nat.le_succ _) _ _⟩
theorem map_add_wf {l : List V2} (hl : allV l = true) {v : V2} (hv : vecV v = true) : wfV (l.map fun p => addV p v) := fun x hx => by
  obtain ⟨p, hp, rfl⟩ := List.mem_map.1 hx
  have h1 := vecB_bounds (List.all_eq_true.1 hl p hp)
  have h2 := vecB_bounds hv
  unfold addV
  exact ⟨WalkArith.wf_i64 ⟨by simp only; omega, by simp only; omega⟩, WalkArith.wf_i64 ⟨by simp only; omega, by simp only; omega⟩⟩
set_option maxRecDepth 100000 in
set_option maxHeartbeats 1600000 in
theorem impl_changedMove (w : World) (B : Nat) (hB : B ≤ w.heap.size) (A : Option Addr) (n c : Nat) (l : List V2) (R : RdV w B A n l) (hV : allV l = true) (v : V2) (hv : vecV v = true) (gv : Nat) (kv : Box w gv 26 #[.int .i64 v.1, .int .i64 v.2]) :
    Calls Tryz.prog 20 #[.slice A n c, .func (.func 21) #[] #[.pointer (some ⟨gv, 0, none⟩)]] w fun e w' => ∃ r, e = .returned r ∧ OwnV w' w.heap.size w'.heap.size 26 r (mvL l v).length (mvL l v) ∧ Below w.heap.size w w' := by
  obtain ⟨hn, hx, hl, hwf⟩ := R
  obtain ⟨w0, hmk, hown0, hb0⟩ := Tryz.make0V w n hl
  have HK := hide kv
  have hgv := kv.lt
  clear kv
  go_enter Tryz.func20, Tryz.ntmps20
  go_wp2_with fail
  go_loopw [5, 13] (fun r i wr => ∃ k : Nat, k ≤ n ∧ i = .int .i64 k ∧ wr.ownsRow w.heap.size 26 2 r k (fl ((l.take k).map fun p => addV p v)) ∧ Below w.heap.size w wr) (fun _ i _ => n - (intOf i).toNat)
  case atStart => exact ⟨0, Nat.zero_le _, rfl, by simpa [fl] using hown0, hb0⟩
  case round =>
    clear hown0 hb0 hmk
    obtain ⟨k, hk, rfl, hown, hbel⟩ := hrel
    by_cases hlt : k < n
    · obtain ⟨ad, hA, hb1, hc1, hc2⟩ := (hx.below (hbel.mono hB)).vec (k := k) (by omega)
      have hkl : k < l.length := by omega
      have HV := hide (fun (W : World) (hb : Below w.heap.size w W) => impl_move1 W gv l[k].1 l[k].2 v.1 v.2 (List.all_eq_true.1 hV l[k] (List.getElem_mem hkl)) hv (HK.out.below hb hgv))
      have HM := hide (map_take_snoc (fun p => addV p v) hkl)
      have HM2 : Hid (addV l[k] v = (l[k].1 + v.1, l[k].2 + v.2)) := rfl
      have hbs := hbel.size
      generalize l[k].1 + v.1 = x1 at *
      generalize l[k].2 + v.2 = y1 at *
      generalize l[k].1 = x0 at *
      generalize l[k].2 = y0 at *
      obtain ⟨W0, hW0⟩ : ∃ W0, W0 = wr.alloc (.cells #[.int .i64 x0, .int .i64 y0] 26) := ⟨_, rfl⟩
      have ka : Box W0 wr.heap.size 26 #[.int .i64 x0, .int .i64 y0] := by rw [hW0]; exact Box.last _ _ _ rfl
      have hT : Below wr.heap.size wr W0 := by rw [hW0]; exact below_new _ _
      subst hA
      go_upto_region 5 with fail
      rw [← hW0]
      clear hW0 hc1 hc2
      obtain ⟨ya0, ya1⟩ := ka.cells2
      have hbT := hbel.trans (hT.mono hbs)
      go_wp2_with fail
      refine (HV.out _ hbT).mono ?_
      rintro e w1 ⟨rfl, hb1⟩
      clear ya0 ya1 HV
      have hT2 := hT.trans (hb1.mono hT.size)
      have hown2 := own_grown hown hT2
      have hbel2 := hbel.trans (hT2.mono hbs)
      have hbs2 := hbel2.size
      clear hown hT hT2 hb1 hbT
      go_wp2_with (at_builtin; refine wpList_append1 Tryz.sliceVec rfl _ _ rfl w1 w.heap.size _ _ _ hown2 rfl #[.int .i64 x1, .int .i64 y1] 1 rfl rfl (by simp [Value.oneCell']) (by omega) (by omega) (by omega) ?_; intro v' w2 hown3 hb2)
      go_roundw
      case rel => exact ⟨k + 1, by omega, by go_num, by rw [HM.out, fl_append, HM2.out]; exact hown3, hbel2.trans hb2⟩
      case measure => simp [intOf]; omega
    · obtain rfl : k = n := by omega
      have e : (l.take k).map (fun p => addV p v) = l.map fun p => addV p v := by rw [List.take_of_length_le (by omega)]
      rw [e] at hown
      have o := OwnV.of hown
      have hlen := o.len
      clear e hown hx
      obtain ⟨A1, c1, rfl⟩ := o.form
      have HA := hide (impl_areValidVecs wr wr.heap.size (Nat.le_refl _) A1 k c1 _ (o.rdV hl (map_add_wf hV hv)))
      go_wp2_with fail
      refine HA.out.mono ?_
      rintro e w1 ⟨rfl, hb1⟩
      have o1 := (o.below hb1 (Nat.le_refl _)).wider (Nat.le_refl _) hb1.size
      have hbel2 := hbel.trans (hb1.mono hbel.size)
      clear HA o hb1
      by_cases ev : allV (l.map fun p => addV p v) = true
      · have HN : Hid (mvL l v = l.map fun p => addV p v) := by show _ = _; unfold mvL; rw [if_pos ⟨hv, ev⟩]
        have hL : Hid ((mvL l v).length = k) := by show _ = _; rw [HN.out]; exact hlen
        rw [ev]
        go_wp2_with fail
        go_ret
        exact ⟨_, rfl, by rw [hL.out, HN.out]; exact o1, hbel2⟩
      · have HN : Hid (mvL l v = []) := by show _ = _; unfold mvL; rw [if_neg (fun h => ev h.2)]
        have ev : allV (l.map fun p => addV p v) = false := by simpa using ev
        rw [ev]
        go_wp2_with fail
        go_ret
        exact ⟨_, rfl, by rw [HN.out]; exact OwnV.nil _ _ _ _, hbel2⟩
theorem impl_MovePolygon (w : World) (B : Nat) (hB : B ≤ w.heap.size) (A : Option Addr) (n c : Nat) (l : List V2) (R : RdV w B A n l) (hV : allV l = true) (x y : Int) (hv : vecB x y = true) :
    Calls Tryz.prog 6 #[.slice A n c, .agg #[.int .i64 x, .int .i64 y]] w fun e w' => ∃ r, e = .returned r ∧ OwnV w' w.heap.size w'.heap.size 26 r (mvL l (x, y)).length (mvL l (x, y)) ∧ Below w.heap.size w w' := by
  have hvb := vecB_bounds hv
  obtain ⟨W0, hW0⟩ : ∃ W0, W0 = w.alloc (.cells #[.int .i64 x, .int .i64 y] 26) := ⟨_, rfl⟩
  have hT0 : Below w.heap.size w W0 := by rw [hW0]; exact below_new _ _
  have kv : Box W0 w.heap.size 26 #[.int .i64 x, .int .i64 y] := by rw [hW0]; exact Box.last _ _ _ rfl
  have HI := hide (impl_IsValidVec W0 x y (WalkArith.wf_i64 ⟨by omega, by omega⟩) (WalkArith.wf_i64 ⟨by omega, by omega⟩))
  rw [hv] at HI
  have HC := hide (fun (W : World) (hb : Below W0.heap.size W0 W) => impl_changedMove W B (Nat.le_trans hB (Nat.le_trans hT0.size hb.size)) A n c l ((R.below (hT0.mono hB)).below (hb.mono (Nat.le_trans hB hT0.size))) hV (x, y) hv w.heap.size (kv.below hb kv.lt))
  obtain ⟨v0, v1⟩ := kv.cells2
  clear kv R hv hvb
  go_enter Tryz.func6, Tryz.ntmps6
  go_upto_region 1 with fail
  rw [← hW0]
  clear hW0
  go_wp2_with fail
  refine HI.out.mono ?_
  rintro e w1 ⟨rfl, hb1⟩
  clear v0 v1
  go_wp2_with fail
  refine (HC.out _ hb1).mono ?_
  rintro e w2 ⟨r, rfl, o, hb2⟩
  have hT1 := below_then hT0 hb1
  have o2 := o.wider (lo' := w.heap.size) (hi' := w2.heap.size) hT1.size (Nat.le_refl _)
  clear o
  go_wp2_with fail
  go_ret
  exact ⟨_, rfl, o2, below_then hT1 hb2⟩
set_option maxHeartbeats 1600000 in
theorem impl_MoveToOrigin (w : World) (B : Nat) (hB : B ≤ w.heap.size) (A : Option Addr) (n c : Nat) (l : List V2) (R : RdV w B A n l) :
    Calls Tryz.prog 10 #[.slice A n c] w fun e w' => ∃ r, e = .returned r ∧ OwnV w' w.heap.size w'.heap.size 26 r (orgL l).length (orgL l) ∧ Below w.heap.size w w' := by
  have HW := hide (impl_WidthOf w B hB A n c l R)
  cases ep : polyB l with
  | false =>
    have HN := hide (orgL_no ep)
    rw [ep] at HW
    generalize (loB l).1 = x1 at *
    generalize (loB l).2 = y1 at *
    generalize (hiB l).1 = x2 at *
    generalize (hiB l).2 = y2 at *
    go_enter Tryz.func10, Tryz.ntmps10
    go_wp2_with fail
    refine HW.out.mono ?_
    rintro e w1 ⟨rfl, hb1⟩
    go_wp2_with fail
    go_ret
    exact ⟨_, rfl, by rw [HN.out]; exact OwnV.nil _ _ _ _, below_alloc (below_alloc hb1 _) _⟩
  | true =>
    have hpp := polyB_iff.1 ep
    have hV : allV l = true := List.all_eq_true.2 fun x hx => by obtain ⟨i, hi, rfl⟩ := mem_at hx; exact poly_vec hpp hi
    have hlo := loN_vec hpp (Nat.le_refl l.length)
    have hb := vecB_bounds hlo
    have hng : vecB (-(loN l l.length).1) (-(loN l l.length).2) = true := by unfold vecB; simp; omega
    have HM := hide (fun (W : World) (h : Below w.heap.size w W) => impl_MovePolygon W B (Nat.le_trans hB h.size) A n c l (R.below (h.mono hB)) hV (-(loN l l.length).1) (-(loN l l.length).2) hng)
    have HN : Hid (orgL l = mvL l (-(loN l l.length).1, -(loN l l.length).2)) := orgL_is ep
    rw [ep, loB_is ep] at HW
    clear hpp hV hlo hng ep R
    generalize (loN l l.length).1 = x1 at *
    generalize (loN l l.length).2 = y1 at *
    generalize (hiB l).1 = x2 at *
    generalize (hiB l).2 = y2 at *
    go_enter Tryz.func10, Tryz.ntmps10
    go_wp2_with fail
    refine HW.out.mono ?_
    rintro e w1 ⟨rfl, hb1⟩
    go_wp2_with fail
    refine (HM.out _ (below_alloc (below_alloc hb1 _) _)).mono ?_
    rintro e w2 ⟨r, rfl, o, hb2⟩
    have hT1 := below_alloc (below_alloc hb1 (.cells #[.int .i64 x1, .int .i64 y1] 26)) (.cells #[.int .i64 x2, .int .i64 y2] 26)
    have o2 := o.wider (lo' := w.heap.size) (hi' := w2.heap.size) hT1.size (Nat.le_refl _)
    clear o
    go_wp2_with fail
    go_ret
    exact ⟨_, rfl, by rw [HN.out]; exact o2, below_then hT1 hb2⟩
end Go.Proofs.YtdagomikjblgiaaGreatDoor
