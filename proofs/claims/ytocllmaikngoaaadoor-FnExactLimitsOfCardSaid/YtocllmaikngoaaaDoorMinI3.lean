/-
  The program's sums of polygons: contracts: WidthOf.
-/
import Derived.Test.YtocllmaikngoaaaDoorSP
import Derived.Test.YtocllmaikngoaaaDoorPolI
import Derived.Test.YtocllmaikngoaaaDoorLB
namespace Go.Proofs.YtocllmaikngoaaaDoor
open Go.RowKit
set_option linter.unusedVariables false
theorem results_cct {P : Program} {fn : Func} {p q u : Tmp} {ty : TypeId} (h : fn.results = #[.cell p ty, .cell q ty, .tmp u]) (tmps : Array Value) (w : World) (g g' : Nat) (t : TypeId) (cs ds : Array Value) (fr fr' : Nat × Nat) (d : TypeDesc)
    (hp : tmps.getD p undef = .pointer (some ⟨g, 0, none⟩)) (hq : tmps.getD q undef = .pointer (some ⟨g', 0, none⟩)) (hg : w.heap[g]? = some (.cells cs t fr)) (hg' : w.heap[g']? = some (.cells ds t fr'))
    (hu : P.underlying ty = some d) (hd : (match d with | .struct _ | .array _ _ => true | _ => false) = true) (hi : (P.info? ty).map (·.size) = some cs.size) (hi' : (P.info? ty).map (·.size) = some ds.size) :
    (results fn tmps).run P w = .ok (.tuple #[.agg cs, .agg ds, tmps.getD u undef]) w := by
  have hp' : tmps[p]?.getD undef = .pointer (some ⟨g, 0, none⟩) := by simpa using hp
  have hq' : tmps[q]?.getD undef = .pointer (some ⟨g', 0, none⟩) := by simpa using hq
  simp [results, h, hp', hq', asAddr, run_loadVar_row w g t ty cs fr d hg hu hd hi, run_loadVar_row w g' t ty ds fr' d hg' hu hd hi']
theorem box_val {w : World} {g : Nat} {E : TypeId} {a b a' b' : Int} (h : Box w g E #[.int .i64 a, .int .i64 b]) (ha : a = a') (hb : b = b') : Box w g E #[.int .i64 a', .int .i64 b'] := by subst ha hb; exact h
/-- two variables of two cells that a drawn region has made -/
def TwoVars (w wx : World) (sx sy : Value) (E : TypeId) (x y : Int) : Prop :=
  ∃ g g', sx = .pointer (some ⟨g, 0, none⟩) ∧ sy = .pointer (some ⟨g', 0, none⟩) ∧ Box wx g E #[.int .i64 x, .int .i64 y] ∧ Box wx g' E #[.int .i64 x, .int .i64 y] ∧ w.heap.size ≤ g ∧ w.heap.size ≤ g' ∧ g ≠ g' ∧ Below w.heap.size w wx
theorem twovars1 (w1 : World) (E : TypeId) (x y : Int) : TwoVars w1 ((w1.alloc (.cells #[.int .i64 x, .int .i64 y] E)).alloc (.cells #[.int .i64 x, .int .i64 y] E)).drew (.pointer (some ⟨w1.heap.size, 0, none⟩)) (.pointer (some ⟨w1.heap.size + 1, 0, none⟩)) E x y :=
  ⟨_, _, rfl, rfl, ((Box.last _ _ _ rfl).alloc _).drew, (Box.last _ _ _ (alloc_size _ _).symm).drew, Nat.le_refl _, Nat.le_succ _, by omega, (below_alloc (below_new _ _) _).drew⟩
theorem twovars2 (w1 : World) (E : TypeId) (x y : Int) : TwoVars w1 ((w1.alloc (.cells #[.int .i64 x, .int .i64 y] E)).alloc (.cells #[.int .i64 x, .int .i64 y] E)).drew (.pointer (some ⟨w1.heap.size + 1, 0, none⟩)) (.pointer (some ⟨w1.heap.size, 0, none⟩)) E x y :=
  ⟨_, _, rfl, rfl, (Box.last _ _ _ (alloc_size _ _).symm).drew, ((Box.last _ _ _ rfl).alloc _).drew, Nat.le_succ _, Nat.le_refl _, by omega, (below_alloc (below_new _ _) _).drew⟩
/-- both results, stored in either order -/
theorem store_two {w W : World} {g g' : Nat} {E : TypeId} {a b c d x y u v : Value} (hk : Box W g E #[a, b]) (hk' : Box W g' E #[c, d]) (hb : Below w.heap.size w W) (hg : w.heap.size ≤ g) (hg' : w.heap.size ≤ g') (hne : g ≠ g') :
    Box ((((W.setCell ⟨g, 0, none⟩ x).setCell ⟨g, 1, none⟩ y).setCell ⟨g', 0, none⟩ u).setCell ⟨g', 1, none⟩ v) g E #[x, y] ∧ Box ((((W.setCell ⟨g, 0, none⟩ x).setCell ⟨g, 1, none⟩ y).setCell ⟨g', 0, none⟩ u).setCell ⟨g', 1, none⟩ v) g' E #[u, v] ∧
    Below w.heap.size w ((((W.setCell ⟨g, 0, none⟩ x).setCell ⟨g, 1, none⟩ y).setCell ⟨g', 0, none⟩ u).setCell ⟨g', 1, none⟩ v) :=
  ⟨((hk.set2 x y).setv hne 0 u).setv hne 1 v, ((hk'.setv (Ne.symm hne) 0 x).setv (Ne.symm hne) 1 y).set2 u v, below_set2 (below_set2 hb hg x y) hg' u v⟩
set_option maxRecDepth 100000 in
set_option maxHeartbeats 3200000 in
theorem impl_WidthOf (w : World) (B : Nat) (hB : B ≤ w.heap.size) (A : Option Addr) (n c : Nat) (l : List V2) (R : RdV w B A n l) :
    Calls Tryd.prog 36 #[.slice A n c] w fun e w' => e = .returned (.tuple #[.agg #[.int .i64 (loB l).1, .int .i64 (loB l).2], .agg #[.int .i64 (hiB l).1, .int .i64 (hiB l).2], .bool (polyB l)]) ∧ Below w.heap.size w w' := by
  obtain ⟨W0, hW0⟩ : ∃ W0, W0 = (w.alloc (.cells #[.int .i64 0, .int .i64 0] 31)).alloc (.cells #[.int .i64 0, .int .i64 0] 31) := ⟨_, rfl⟩
  have hT0 : Below w.heap.size w W0 := by rw [hW0]; exact below_alloc (below_new _ _) _
  have k2 : Box W0 w.heap.size 31 #[.int .i64 0, .int .i64 0] := by rw [hW0]; exact (Box.last _ _ _ rfl).alloc _
  have k3 : Box W0 (w.heap.size + 1) 31 #[.int .i64 0, .int .i64 0] := by rw [hW0]; exact Box.last _ _ _ (alloc_size _ _).symm
  have R0 := R.below (hT0.mono hB)
  have HP := hide (impl_IsPolygon W0 B (Nat.le_trans hB hT0.size) A n c l R0)
  have hs0 : w.heap.size + 2 ≤ W0.heap.size := by rw [hW0, alloc_size, alloc_size]; omega
  clear R
  cases ep : polyB l with
  | false =>
    have H1 := hide (loB_no ep)
    have H2 := hide (hiB_no ep)
    rw [ep] at HP
    clear R0 ep
    go_enter Tryd.func36, Tryd.ntmps36
    go_upto_region 1 with fail
    rw [← hW0]
    clear hW0
    go_wp2_with fail
    refine HP.out.mono ?_
    rintro e w1 ⟨rfl, hb1⟩
    have k2' := k2.below hb1 k2.lt
    have k3' := k3.below hb1 k3.lt
    have HK2 := hide k2'
    have HK3 := hide k3'
    obtain ⟨a0, a1, a2, a3⟩ := k2'.facts
    obtain ⟨b0, b1, b2, b3⟩ := k3'.facts
    have hT1 := below_then hT0 hb1
    clear HP k2 k3 k2' k3' hb1 hs0 hT0
    go_wp2_with fail
    rw [H1.out, H2.out]
    refine bodyPost_ret (results_cct rfl _ _ w.heap.size (w.heap.size + 1) _ #[.int .i64 0, .int .i64 0] #[.int .i64 0, .int .i64 0] (0, 0) (0, 0) _ rfl rfl (show Box _ _ 31 #[.int .i64 0, .int .i64 0] from (((HK2.out.set2 _ _).setv (by omega) _ _).setv (by omega) _ _)) (show Box _ _ 31 #[.int .i64 0, .int .i64 0] from (((HK3.out.setv (by omega) _ _).setv (by omega) _ _).set2 _ _)) Tryd.underlying31 rfl Tryd.sizeVec Tryd.sizeVec) rfl ?_
    exact ⟨rfl, below_set2 (below_set2 hT1 (Nat.le_refl _) _ _) (Nat.le_succ _) _ _⟩
  | true =>
    have hpp := polyB_iff.1 ep
    have h3 := hpp.1
    have H1 := hide (loB_is ep)
    have H2 := hide (hiB_is ep)
    rw [ep] at HP
    obtain ⟨hn, hx, hl, hwf⟩ := R0
    have HV := hide (fun k (hk : k ≤ l.length) => And.intro (vecB_bounds (loN_vec hpp hk)) (vecB_bounds (hiN_vec hpp hk)))
    have HVX := hide (fun k (hk : k < l.length) => vecB_bounds (poly_vec hpp hk))
    clear ep hpp
    go_enter Tryd.func36, Tryd.ntmps36
    go_upto_region 1 with fail
    rw [← hW0]
    clear hW0
    go_wp2_with fail
    refine HP.out.mono ?_
    rintro e w1 ⟨rfl, hb1⟩
    have k2' := k2.below hb1 k2.lt
    have k3' := k3.below hb1 k3.lt
    have hT1 := below_then hT0 hb1
    have hs1 : w.heap.size + 2 ≤ w1.heap.size := Nat.le_trans hs0 hb1.size
    have hx1 := hx.below (hb1.mono (Nat.le_trans hB hT0.size))
    clear HP k2 k3 hb1 hs0 hT0 hx
    go_upto_region 3 with fail
    obtain ⟨ad, hA, hba, hc1, hc2⟩ := hx1.vec (k := 0) (by omega)
    have e0 : ad.add (0 * 2) = ad := add_zero' ad
    rw [e0] at hc1 hc2
    clear e0
    have hL0 : Hid (l[0]'(by omega) = atV l 0) := (atV_eq (by omega)).symm
    rw [hL0.out] at hc1 hc2
    clear hL0
    subst hA
    have hi0 : 0 < n := by omega
    have hi1 : (0 : Int) < (n : Int) := by omega
    have hba1 : ad.block < w1.heap.size := by omega
    go_cut [5, 6] from 14 to 19 (fun sx sy wx => TwoVars w1 wx sx sy 31 (atV l 0).1 (atV l 0).2)
    case first =>
      generalize (atV l 0).1 = x0 at *
      generalize (atV l 0).2 = y0 at *
      go_region_with (fail)
      all_goals
        go_wp2_with fail
        go_meet
        case rel => first | exact twovars1 _ _ _ _ | exact twovars2 _ _ _ _
    case rest =>
      obtain ⟨g5, g6, rfl, rfl, k5, k6, h5, h6, h56, hb1⟩ := hcut
      clear hc1 hc2
      obtain ⟨V1, hV⟩ : ∃ x, x = wc := ⟨_, rfl⟩
      subst hV
      go_wp2_with fail
      go_loopw [22] (fun i wr => ∃ k : Nat, k ≤ n ∧ i = .int .i64 k ∧ Box wr g5 31 #[.int .i64 (loN l k).1, .int .i64 (loN l k).2] ∧ Box wr g6 31 #[.int .i64 (hiN l k).1, .int .i64 (hiN l k).2] ∧ Below w1.heap.size w1 wr) (fun i _ => n - (intOf i).toNat)
      case atStart => exact ⟨0, Nat.zero_le _, rfl, k5, k6, hb1⟩
      case round =>
        clear k5 k6 hb1
        obtain ⟨k, hk, rfl, k5, k6, hbel⟩ := hrel
        have hv5 := HV.out k (by omega)
        by_cases hlt : k < n
        · obtain ⟨ae, hE, hbb, hc1, hc2⟩ := (hx1.below (hbel.mono (Nat.le_trans hB (by have := hT1.size; omega)))).vec (k := k) (by omega)
          have hkl : k < l.length := by omega
          have hvx := HVX.out k hkl
          have HL1 : Hid (loN l (k + 1) = (min (loN l k).1 (atV l k).1, min (loN l k).2 (atV l k).2)) := rfl
          have HL2 : Hid (hiN l (k + 1) = (max (hiN l k).1 (atV l k).1, max (hiN l k).2 (atV l k).2)) := rfl
          have ea := atV_eq hkl
          rw [← ea] at hc1 hc2
          clear ea
          generalize (atV l k).1 = x0 at *
          generalize (atV l k).2 = y0 at *
          generalize (loN l k).1 = a0 at *
          generalize (loN l k).2 = a1 at *
          generalize (hiN l k).1 = b0 at *
          generalize (hiN l k).2 = b1 at *
          obtain ⟨W1, hW1⟩ : ∃ W1, W1 = wr.alloc (.cells #[.int .i64 x0, .int .i64 y0] 31) := ⟨_, rfl⟩
          have kx : Box W1 wr.heap.size 31 #[.int .i64 x0, .int .i64 y0] := by rw [hW1]; exact Box.last _ _ _ rfl
          have k5' : Box W1 g5 31 #[.int .i64 a0, .int .i64 a1] := by rw [hW1]; exact k5.alloc _
          have k6' : Box W1 g6 31 #[.int .i64 b0, .int .i64 b1] := by rw [hW1]; exact k6.alloc _
          have hbW : Below w1.heap.size w1 W1 := by rw [hW1]; exact below_alloc hbel _
          have hn5 : g5 ≠ wr.heap.size := by have := k5.lt; omega
          have hn6 : g6 ≠ wr.heap.size := by have := k6.lt; omega
          clear k5 k6 hbel
          cases hE
          go_upto_region 7 with fail
          rw [← hW1]
          clear hW1 hc1 hc2
          have HK5 := hide k5'
          have HK6 := hide k6'
          have HKX := hide kx
          obtain ⟨p0, p1, p2, p3⟩ := k5'.facts
          obtain ⟨x0', x1', -, -⟩ := kx.facts
          clear k5' k6' kx
          go_upto_region 8 with fail
          first
            | (obtain ⟨W2, hW2⟩ : ∃ W2, W2 = (W1.setCell ⟨g5, 0, none⟩ (.int .i64 (if x0 < a0 then x0 else a0))).setCell ⟨g5, 1, none⟩ (.int .i64 (if y0 < a1 then y0 else a1)) := ⟨_, rfl⟩; have j5 : Box W2 g5 31 #[.int .i64 (if x0 < a0 then x0 else a0), .int .i64 (if y0 < a1 then y0 else a1)] := (by rw [hW2]; exact HK5.out.set2 _ _); have j6 : Box W2 g6 31 #[.int .i64 b0, .int .i64 b1] := (by rw [hW2]; exact (HK6.out.setv (Ne.symm h56) _ _).setv (Ne.symm h56) _ _); have jx : Box W2 wr.heap.size 31 #[.int .i64 x0, .int .i64 y0] := (by rw [hW2]; exact (HKX.out.setv (Ne.symm hn5) _ _).setv (Ne.symm hn5) _ _); have hbW2 : Below w1.heap.size w1 W2 := (by rw [hW2]; exact below_set2 hbW h5 _ _); rw [← hW2]; have j5' := box_val j5 (a' := (loN l (k + 1)).1) (b' := (loN l (k + 1)).2) (by rw [HL1.out]; show _ = min a0 x0; split <;> omega) (by rw [HL1.out]; show _ = min a1 y0; split <;> omega))
            | (obtain ⟨W2, hW2⟩ : ∃ W2, W2 = (W1.setCell ⟨g5, 0, none⟩ (.int .i64 (min a0 x0))).setCell ⟨g5, 1, none⟩ (.int .i64 (min a1 y0)) := ⟨_, rfl⟩; have j5 : Box W2 g5 31 #[.int .i64 (min a0 x0), .int .i64 (min a1 y0)] := (by rw [hW2]; exact HK5.out.set2 _ _); have j6 : Box W2 g6 31 #[.int .i64 b0, .int .i64 b1] := (by rw [hW2]; exact (HK6.out.setv (Ne.symm h56) _ _).setv (Ne.symm h56) _ _); have jx : Box W2 wr.heap.size 31 #[.int .i64 x0, .int .i64 y0] := (by rw [hW2]; exact (HKX.out.setv (Ne.symm hn5) _ _).setv (Ne.symm hn5) _ _); have hbW2 : Below w1.heap.size w1 W2 := (by rw [hW2]; exact below_set2 hbW h5 _ _); rw [← hW2]; have j5' := box_val j5 (a' := (loN l (k + 1)).1) (b' := (loN l (k + 1)).2) (by rw [HL1.out]) (by rw [HL1.out]))
          clear hW2 hbW HK5 HK6 HKX p0 p1 p2 p3 x0' x1' j5 HL1
          have HK5 := hide j5'
          have HK6 := hide j6
          obtain ⟨p0, p1, p2, p3⟩ := j6.facts
          obtain ⟨x0', x1', -, -⟩ := jx.facts
          clear j5' j6 jx
          go_wp2_with fail
          go_roundw
          case rel =>
            refine ⟨k + 1, by omega, by go_num, (HK5.out.setv h56 _ _).setv h56 _ _, box_val (HK6.out.set2 _ _) ?_ ?_, below_set2 hbW2 h6 _ _⟩
            · first | (rw [HL2.out]; show _ = max b0 x0; split <;> omega) | rw [HL2.out]
            · first | (rw [HL2.out]; show _ = max b1 y0; split <;> omega) | rw [HL2.out]
          case measure => simp [intOf]; omega
        · obtain rfl : k = n := by omega
          have hkk : k = l.length := hn.symm
          rw [hkk] at k5 k6
          rw [← H1.out] at k5
          rw [← H2.out] at k6
          have q2 := k2'.below hbel k2'.lt
          have q3 := k3'.below hbel k3'.lt
          have hT2 := below_then hT1 hbel
          have HQ2 := hide q2
          have HQ3 := hide q3
          obtain ⟨a0, a1, a2, a3⟩ := q2.facts
          obtain ⟨b0, b1, b2, b3⟩ := q3.facts
          obtain ⟨p0, p1, -, -⟩ := k5.facts
          obtain ⟨x0', x1', -, -⟩ := k6.facts
          clear k2' k3' q2 q3 k5 k6 hx1 hbel hkk
          go_wp2_with fail
          go_region_with (fail)
          all_goals
            go_wp2_with fail
            obtain ⟨s1, s2, s3⟩ := store_two (x := .int .i64 (loB l).1) (y := .int .i64 (loB l).2) (u := .int .i64 (hiB l).1) (v := .int .i64 (hiB l).2) HQ2.out HQ3.out hT2 (Nat.le_refl _) (Nat.le_succ _) (by omega)
            refine bodyPost_ret (results_cct rfl _ _ w.heap.size (w.heap.size + 1) _ #[.int .i64 (loB l).1, .int .i64 (loB l).2] #[.int .i64 (hiB l).1, .int .i64 (hiB l).2] (0, 0) (0, 0) _ rfl rfl (show Box _ _ 31 _ from s1.drew) (show Box _ _ 31 _ from s2.drew) Tryd.underlying31 rfl Tryd.sizeVec Tryd.sizeVec) rfl ?_
            exact ⟨rfl, s3.drew⟩
end Go.Proofs.YtocllmaikngoaaaDoor
