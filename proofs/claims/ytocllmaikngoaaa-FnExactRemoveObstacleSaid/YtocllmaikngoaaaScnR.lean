/-
  The reference's scenes: contracts (1): l10Inside, l10Shape, IsValidScene.
-/
import Derived.Test.YtocllmaikngoaaaSB
import Derived.Test.YtocllmaikngoaaaPolR
import Derived.Test.YtocllmaikngoaaaPolI3
import Derived.Test.YtocllmaikngoaaaRA
namespace Go.Proofs.Ytocllmaikngoaaa
open Go.RowKit
set_option linter.unusedVariables false
set_option maxRecDepth 100000 in
set_option maxHeartbeats 1600000 in
theorem spec_l10Inside (w : World) (B : Nat) (hB : B ≤ w.heap.size) (A : Option Addr) (n c : Nat) (l : List V2) (R : RdV w B A n l) (m : Int) (hm : 0 ≤ m ∧ m ≤ 1000000) :
    Calls Try.prog 50 #[.slice A n c, .int .i64 m] w fun e w' => e = .returned (.bool (allIn m l)) ∧ Below w.heap.size w w' := by
  obtain ⟨hn, hx, hl, hwf⟩ := R
  obtain ⟨hm1, hm2⟩ := hm
  go_enter Try.func50, Try.ntmps50
  go_wp2_with fail
  go_loopw [9] (fun i wr => ∃ k : Nat, k ≤ n ∧ i = .int .i64 k ∧ Hid (∀ j (h : j < l.length), j < k → inV m l[j] = true) ∧ Below w.heap.size w wr) (fun i _ => n - (intOf i).toNat)
  case atStart => exact ⟨0, Nat.zero_le _, rfl, fun j _ h => absurd h (Nat.not_lt_zero _), Below.refl _ _⟩
  case round =>
    obtain ⟨k, hk, rfl, H, hbel⟩ := hrel
    by_cases hlt : k < n
    · obtain ⟨ad, hA, hb1, hc1, hc2⟩ := (hx.below (hbel.mono hB)).vec (k := k) (by omega)
      have hkl : k < l.length := by omega
      obtain ⟨f1, f2⟩ := wfV_at hwf hkl
      obtain ⟨f1, f1'⟩ := bounds_i64 f1
      obtain ⟨f2, f2'⟩ := bounds_i64 f2
      have hbs := hbel.size
      generalize hv : l[k] = v0 at *
      obtain ⟨x0, y0⟩ := v0
      obtain ⟨W0, hW0⟩ : ∃ W0, W0 = wr.alloc (.cells #[.int .i64 x0, .int .i64 y0] 29) := ⟨_, rfl⟩
      have ka : Box W0 wr.heap.size 29 #[.int .i64 x0, .int .i64 y0] := by rw [hW0]; exact Box.last _ _ _ rfl
      have hT : Below wr.heap.size wr W0 := by rw [hW0]; exact below_new _ _
      have hbel2 := hbel.trans (hT.mono hbs)
      subst hA
      go_upto_region 4 with fail
      rw [← hW0]
      clear hW0 hc1 hc2 hx
      obtain ⟨ya0, ya1⟩ := ka.cells2
      by_cases e1 : -m ≤ x0 ∧ x0 ≤ m
      case neg =>
        have HV1 := hide (l01In_all x0 (-m) m W0 false (by show false = _; rw [decide_eq_false e1]))
        have HN : Hid (allIn m l = false) := allIn_no hkl (by rw [hv]; unfold inV inB; rw [decide_eq_false e1]; rfl)
        clear e1 H hv
        go_wp2_with fail
        refine HV1.out.mono ?_
        rintro e w' ⟨rfl, rfl⟩
        go_wp2_with fail
        go_ret
        exact ⟨ret_bool HN.out.symm, hbel2⟩
      have HV1 := hide (l01In_all x0 (-m) m W0 true (by show true = _; rw [decide_eq_true e1]))
      by_cases e2 : -m ≤ y0 ∧ y0 ≤ m
      case neg =>
        have HV2 := hide (l01In_all y0 (-m) m W0 false (by show false = _; rw [decide_eq_false e2]))
        have HN : Hid (allIn m l = false) := allIn_no hkl (by rw [hv]; unfold inV inB; rw [decide_eq_false e2, Bool.and_false])
        clear e1 e2 H hv
        go_wp2_with fail
        refine HV1.out.mono ?_
        rintro e w' ⟨rfl, rfl⟩
        go_wp2_with fail
        refine HV2.out.mono ?_
        rintro e w' ⟨rfl, rfl⟩
        go_wp2_with fail
        go_ret
        exact ⟨ret_bool HN.out.symm, hbel2⟩
      have HV2 := hide (l01In_all y0 (-m) m W0 true (by show true = _; rw [decide_eq_true e2]))
      have HN : Hid (∀ j (h : j < l.length), j < k + 1 → inV m l[j] = true) := fun j h hj => by
        by_cases e : j = k
        · subst e; rw [hv]; unfold inV inB; rw [decide_eq_true e1, decide_eq_true e2]; rfl
        · exact H.out j h (by omega)
      clear e1 e2 H hv
      go_wp2_with fail
      refine HV1.out.mono ?_
      rintro e w' ⟨rfl, rfl⟩
      go_wp2_with fail
      refine HV2.out.mono ?_
      rintro e w' ⟨rfl, rfl⟩
      go_wp2_with fail
      go_roundw
      case rel => exact ⟨k + 1, by omega, by go_num, HN, hbel2⟩
      case measure => simp [intOf]; omega
    · obtain rfl : k = n := by omega
      have HN : Hid (allIn m l = true) := List.all_eq_true.2 fun v hv => by obtain ⟨j, hj, rfl⟩ := List.getElem_of_mem hv; exact H.out j hj (by omega)
      clear hx H
      go_wp2_with fail
      go_ret
      exact ⟨ret_bool HN.out.symm, hbel⟩
set_option maxHeartbeats 1600000 in
theorem spec_l10Shape (w : World) (B : Nat) (hB : B ≤ w.heap.size) (A : Option Addr) (n c : Nat) (l : List V2) (R : RdV w B A n l) (m : Int) (hm : 0 ≤ m ∧ m ≤ 1000000) :
    Calls Try.prog 51 #[.slice A n c, .int .i64 m] w fun e w' => e = .returned (.bool (solB m l)) ∧ Below w.heap.size w w' := by
  have HS : Hid (solB m l = (polyB l && (decide (n ≤ 5) && allIn m l))) := by show _ = _; unfold solB; rw [R.1, ← Bool.and_assoc, ← Bool.and_assoc, Bool.and_comm (decide _)]
  have HP := hide (spec_IsPolygon w B hB A n c l R)
  have HA := hide (fun (W : World) (hb : Below w.heap.size w W) => spec_l10Inside W B (Nat.le_trans hB hb.size) A n c l (R.below (hb.mono hB)) m hm)
  have hl := R.2.2.1
  clear R
  rw [HS.out]
  clear HS
  generalize allIn m l = b3 at *
  cases hp : polyB l with
  | false =>
    rw [hp] at HP
    go_enter Try.func51, Try.ntmps51
    go_wp2_with fail
    refine HP.out.mono ?_
    rintro e w1 ⟨rfl, hb1⟩
    go_wp2_with fail
    go_ret
    exact ⟨rfl, hb1⟩
  | true =>
    rw [hp] at HP
    by_cases h5 : n ≤ 5
    case neg =>
      rw [decide_eq_false h5]
      go_enter Try.func51, Try.ntmps51
      go_wp2_with fail
      refine HP.out.mono ?_
      rintro e w1 ⟨rfl, hb1⟩
      go_wp2_with fail
      go_ret
      exact ⟨rfl, hb1⟩
    rw [decide_eq_true h5]
    go_enter Try.func51, Try.ntmps51
    go_wp2_with fail
    refine HP.out.mono ?_
    rintro e w1 ⟨rfl, hb1⟩
    go_wp2_with fail
    refine (HA.out _ hb1).mono ?_
    rintro e w2 ⟨rfl, hb2⟩
    go_wp2_with fail
    go_ret
    exact ⟨rfl, below_then hb1 hb2⟩
theorem rd_two {w : World} {g : Nat} {E : TypeId} {a b c d : Int} (h : Box w g E #[.int .i64 a, .int .i64 b, .int .i64 c, .int .i64 d]) (ha : (Lit.int .i64 a).wf = true) (hb : (Lit.int .i64 b).wf = true) (hc : (Lit.int .i64 c).wf = true) (hd : (Lit.int .i64 d).wf = true) : RdV w (g + 1) (some ⟨g, 0, none⟩) 2 [(a, b), (c, d)] := by
  refine ⟨rfl, .inr ⟨_, rfl, Nat.lt_succ_self _, fun k u hu => ?_⟩, by omega, fun v hv => ?_⟩
  · have e : (⟨g, 0, none⟩ : Addr).add k = ⟨g, k, none⟩ := by unfold Addr.add; split <;> simp_all
    rw [e, h.cell k]
    have e2 : (#[Value.int .i64 a, .int .i64 b, .int .i64 c, .int .i64 d] : Array Value)[k]? = (fl [(a, b), (c, d)])[k]? := List.getElem?_toArray ..
    rw [e2]; exact hu
  · simp only [List.mem_cons, List.not_mem_nil, or_false] at hv
    rcases hv with rfl | rfl
    · exact ⟨ha, hb⟩
    · exact ⟨hc, hd⟩
set_option maxRecDepth 100000 in
set_option maxHeartbeats 6400000 in
theorem spec_IsValidScene (w : World) (B : Nat) (hB : B ≤ w.heap.size) {v0 v1 v2 v3 v4 v5 v6 : Value} {S : Scn} (h : SIn w B v0 v1 v2 v3 v4 v5 v6 S) :
    Calls Try.prog 25 #[.agg #[v0, v1, v2, v3, v4, v5, v6]] w fun e w' => e = .returned (.bool (scnB S)) ∧ Below w.heap.size w w' := by
  obtain ⟨RA, rc, OA, oc, TA, tc, os, ⟨rfl, rfl, rfl, rfl, rfl, rfl, rfl⟩, hR, ⟨hO, hc⟩, hT, ⟨hlx, hly⟩, hhx, hhy⟩ := h
  have H1 := hide (fun (W : World) (g : Nat) (hg : g + 1 ≤ W.heap.size) (kb : Box W g 29 #[.int .i64 S.lx, .int .i64 S.ly, .int .i64 S.hx, .int .i64 S.hy]) => spec_l10Inside W (g + 1) hg (some ⟨g, 0, none⟩) 2 2 _ (rd_two kb hlx hly hhx hhy) 200 (by omega))
  have e0 : allIn 200 [(S.lx, S.ly), (S.hx, S.hy)] = (inB 200 S.lx S.ly && inB 200 S.hx S.hy) := by simp [allIn, inV]
  rw [e0] at H1
  have H2 := hide (fun (W : World) (hb : Below w.heap.size w W) => spec_l10Shape W B (Nat.le_trans hB hb.size) RA S.r.length rc S.r (hR.below (hb.mono hB)) 20 (by omega))
  have H4 := hide (fun (W : World) (hb : Below w.heap.size w W) => spec_l10Inside W B (Nat.le_trans hB hb.size) TA S.t.length tc S.t (hT.below (hb.mono hB)) 200 (by omega))
  have HE : Hid (scnB S = ((inB 200 S.lx S.ly && inB 200 S.hx S.hy) && (decide (S.lx < S.hx) && (decide (S.ly < S.hy) && (solB 20 S.r && ((cont os).all (solB 200) && (decide (S.o.length ≤ 4) && (decide (S.t.length ≤ 3) && allIn 200 S.t)))))))) := by
    show _ = _
    rw [hc]
    unfold scnB roomB obsB tabB
    generalize inB 200 S.lx S.ly = x1
    generalize inB 200 S.hx S.hy = x2
    generalize decide (S.lx < S.hx) = x3
    generalize decide (S.ly < S.hy) = x4
    generalize solB 20 S.r = x5
    generalize S.o.all (solB 200) = x6
    generalize decide (S.o.length ≤ 4) = x7
    generalize decide (S.t.length ≤ 3) = x8
    generalize allIn 200 S.t = x9
    cases x1 <;> cases x2 <;> cases x3 <;> cases x4 <;> cases x5 <;> cases x6 <;> cases x7 <;> rfl
  have hl2 := hO.2.2.1
  have hl3 := hT.2.2.1
  have hol := hO.1
  have HO := hide hO
  rw [HE.out]
  clear HE hR hO hT hlx hly hhx hhy hc e0
  generalize (inB 200 S.lx S.ly && inB 200 S.hx S.hy) = b1 at *
  generalize solB 20 S.r = b2 at *
  generalize allIn 200 S.t = b5 at *
  generalize S.r.length = rn at *
  generalize S.o.length = on at *
  generalize S.t.length = tn at *
  generalize S.lx = lx at *
  generalize S.ly = ly at *
  generalize S.hx = hx at *
  generalize S.hy = hy at *
  obtain ⟨W0, hW0⟩ : ∃ W0, W0 = w.alloc (.cells #[.int .i64 lx, .int .i64 ly, .int .i64 hx, .int .i64 hy, .slice RA rn rc, .slice OA on oc, .slice TA tn tc] 33) := ⟨_, rfl⟩
  have hT0 : Below w.heap.size w W0 := by rw [hW0]; exact below_new _ _
  have k0 : Box W0 w.heap.size 33 #[.int .i64 lx, .int .i64 ly, .int .i64 hx, .int .i64 hy, .slice RA rn rc, .slice OA on oc, .slice TA tn tc] := by rw [hW0]; exact Box.last _ _ _ rfl
  go_enter Try.func25, Try.ntmps25
  go_upto_region 1 with fail
  rw [← hW0]
  clear hW0
  cases b1 with
  | false =>
    obtain ⟨y0, y1, y2, y3, y4, y5, y6⟩ := k0.cells7
    obtain ⟨W1, hW1⟩ : ∃ W1, W1 = W0.alloc (.cells #[.int .i64 lx, .int .i64 ly, .int .i64 hx, .int .i64 hy] 29) := ⟨_, rfl⟩
    have kb : Box W1 W0.heap.size 29 #[.int .i64 lx, .int .i64 ly, .int .i64 hx, .int .i64 hy] := by rw [hW1]; exact Box.last _ _ _ rfl
    have hbW : Below W0.heap.size W0 W1 := by rw [hW1]; exact below_new _ _
    have H1a := hide (H1.out W1 W0.heap.size (by rw [hW1, alloc_size]; omega) kb)
    rw [hW1] at H1a
    clear kb
    go_wp2_with fail
    refine H1a.out.mono ?_
    rw [← hW1]
    rintro e w1 ⟨rfl, hb1⟩
    clear y0 y1 y2 y3 y4 y5 y6 hW1 H1a
    have hb1 := below_then hbW hb1
    have k0 := k0.below hb1 k0.lt
    have hT1 := below_then hT0 hb1
    clear hb1 hT0 hbW
    obtain ⟨y0, y1, y2, y3, y4, y5, y6⟩ := k0.cells7
    go_wp2_with fail
    go_ret
    exact ⟨by first | rfl | (rfl), hT1⟩
  | true =>
  by_cases c1 : lx < hx
  case neg =>
    have g1 : (lx ≥ hx) = True := eq_true (by omega)
    have C1 := hide (decide_eq_false c1)
    clear c1
    obtain ⟨y0, y1, y2, y3, y4, y5, y6⟩ := k0.cells7
    obtain ⟨W1, hW1⟩ : ∃ W1, W1 = W0.alloc (.cells #[.int .i64 lx, .int .i64 ly, .int .i64 hx, .int .i64 hy] 29) := ⟨_, rfl⟩
    have kb : Box W1 W0.heap.size 29 #[.int .i64 lx, .int .i64 ly, .int .i64 hx, .int .i64 hy] := by rw [hW1]; exact Box.last _ _ _ rfl
    have hbW : Below W0.heap.size W0 W1 := by rw [hW1]; exact below_new _ _
    have H1a := hide (H1.out W1 W0.heap.size (by rw [hW1, alloc_size]; omega) kb)
    rw [hW1] at H1a
    clear kb
    go_wp2_with fail
    refine H1a.out.mono ?_
    rw [← hW1]
    rintro e w1 ⟨rfl, hb1⟩
    clear y0 y1 y2 y3 y4 y5 y6 hW1 H1a
    have hb1 := below_then hbW hb1
    have k0 := k0.below hb1 k0.lt
    have hT1 := below_then hT0 hb1
    clear hb1 hT0 hbW
    obtain ⟨y0, y1, y2, y3, y4, y5, y6⟩ := k0.cells7
    go_wp2_with fail
    go_ret
    exact ⟨by first | rfl | (rw [C1.out]; rfl), hT1⟩
  by_cases c2 : ly < hy
  case neg =>
    have g1 : (lx ≥ hx) = False := eq_false (by omega)
    have g2 : (ly ≥ hy) = True := eq_true (by omega)
    have C1 := hide (decide_eq_true c1)
    have C2 := hide (decide_eq_false c2)
    clear c1 c2
    obtain ⟨y0, y1, y2, y3, y4, y5, y6⟩ := k0.cells7
    obtain ⟨W1, hW1⟩ : ∃ W1, W1 = W0.alloc (.cells #[.int .i64 lx, .int .i64 ly, .int .i64 hx, .int .i64 hy] 29) := ⟨_, rfl⟩
    have kb : Box W1 W0.heap.size 29 #[.int .i64 lx, .int .i64 ly, .int .i64 hx, .int .i64 hy] := by rw [hW1]; exact Box.last _ _ _ rfl
    have hbW : Below W0.heap.size W0 W1 := by rw [hW1]; exact below_new _ _
    have H1a := hide (H1.out W1 W0.heap.size (by rw [hW1, alloc_size]; omega) kb)
    rw [hW1] at H1a
    clear kb
    go_wp2_with fail
    refine H1a.out.mono ?_
    rw [← hW1]
    rintro e w1 ⟨rfl, hb1⟩
    clear y0 y1 y2 y3 y4 y5 y6 hW1 H1a
    have hb1 := below_then hbW hb1
    have k0 := k0.below hb1 k0.lt
    have hT1 := below_then hT0 hb1
    clear hb1 hT0 hbW
    obtain ⟨y0, y1, y2, y3, y4, y5, y6⟩ := k0.cells7
    go_wp2_with fail
    go_ret
    exact ⟨by first | rfl | (rw [C1.out, C2.out]; rfl), hT1⟩
  have g1 : (lx ≥ hx) = False := eq_false (by omega)
  have g2 : (ly ≥ hy) = False := eq_false (by omega)
  cases b2 with
  | false =>
    obtain ⟨y0, y1, y2, y3, y4, y5, y6⟩ := k0.cells7
    obtain ⟨W1, hW1⟩ : ∃ W1, W1 = W0.alloc (.cells #[.int .i64 lx, .int .i64 ly, .int .i64 hx, .int .i64 hy] 29) := ⟨_, rfl⟩
    have kb : Box W1 W0.heap.size 29 #[.int .i64 lx, .int .i64 ly, .int .i64 hx, .int .i64 hy] := by rw [hW1]; exact Box.last _ _ _ rfl
    have hbW : Below W0.heap.size W0 W1 := by rw [hW1]; exact below_new _ _
    have H1a := hide (H1.out W1 W0.heap.size (by rw [hW1, alloc_size]; omega) kb)
    rw [hW1] at H1a
    clear kb
    go_wp2_with fail
    refine H1a.out.mono ?_
    rw [← hW1]
    rintro e w1 ⟨rfl, hb1⟩
    clear y0 y1 y2 y3 y4 y5 y6 hW1 H1a
    have hb1 := below_then hbW hb1
    have k0 := k0.below hb1 k0.lt
    have hT1 := below_then hT0 hb1
    clear hb1 hT0 hbW
    obtain ⟨y0, y1, y2, y3, y4, y5, y6⟩ := k0.cells7
    go_wp2_with fail
    refine (H2.out _ hT1).mono ?_
    rintro e w2 ⟨rfl, hb2⟩
    clear y0 y1 y2 y3 y4 y5 y6
    have k0 := k0.below hb2 k0.lt
    have hT2 := below_then hT1 hb2
    clear hb2 hT1
    obtain ⟨y0, y1, y2, y3, y4, y5, y6⟩ := k0.cells7
    go_wp2_with fail
    go_ret
    exact ⟨by first | rfl | (rw [decide_eq_true c1, decide_eq_true c2]; rfl), hT2⟩
  | true =>
  obtain ⟨y0, y1, y2, y3, y4, y5, y6⟩ := k0.cells7
  obtain ⟨W1, hW1⟩ : ∃ W1, W1 = W0.alloc (.cells #[.int .i64 lx, .int .i64 ly, .int .i64 hx, .int .i64 hy] 29) := ⟨_, rfl⟩
  have kb : Box W1 W0.heap.size 29 #[.int .i64 lx, .int .i64 ly, .int .i64 hx, .int .i64 hy] := by rw [hW1]; exact Box.last _ _ _ rfl
  have hbW : Below W0.heap.size W0 W1 := by rw [hW1]; exact below_new _ _
  have H1a := hide (H1.out W1 W0.heap.size (by rw [hW1, alloc_size]; omega) kb)
  rw [hW1] at H1a
  clear kb
  go_wp2_with fail
  refine H1a.out.mono ?_
  rw [← hW1]
  rintro e w1 ⟨rfl, hb1⟩
  clear y0 y1 y2 y3 y4 y5 y6 hW1 H1a
  have hb1 := below_then hbW hb1
  have k0 := k0.below hb1 k0.lt
  have hT1 := below_then hT0 hb1
  clear hb1 hT0 hbW
  obtain ⟨y0, y1, y2, y3, y4, y5, y6⟩ := k0.cells7
  go_wp2_with fail
  refine (H2.out _ hT1).mono ?_
  rintro e w2 ⟨rfl, hb2⟩
  clear y0 y1 y2 y3 y4 y5 y6
  have k0 := k0.below hb2 k0.lt
  have hT2 := below_then hT1 hb2
  clear hb2 hT1
  have HL : Hid (decide (lx < hx) = true ∧ decide (ly < hy) = true) := ⟨decide_eq_true c1, decide_eq_true c2⟩
  clear g1 g2 c1 c2 H1 H2
  have hs2 := hT2.size
  obtain ⟨y0, y1, y2, y3, y4, y5, y6⟩ := k0.cells7
  go_wp2_with fail
  go_loopw [39] (fun i wr => ∃ k : Nat, k ≤ on ∧ i = .int .i64 k ∧ Hid (∀ j (h : j < os.length), j < k → solB 200 os[j].vs = true) ∧ Below w2.heap.size w2 wr) (fun i _ => on - (intOf i).toNat)
  case atStart => exact ⟨0, Nat.zero_le _, rfl, fun j _ h => absurd h (Nat.not_lt_zero _), Below.refl _ _⟩
  case round =>
    clear y0 y1 y2 y3 y4 y5 y6
    obtain ⟨k, hk, rfl, H, hbel⟩ := hrel
    have k0 := k0.below hbel k0.lt
    have hT3 := below_then hT2 hbel
    by_cases hlt : k < on
    · have hkl : k < os.length := by omega
      obtain ⟨ad, hA, hb1, hc1⟩ := ((HO.out.below (hT3.mono hB)).2.1).sl hkl
      have HV := hide (spec_l10Shape wr B (Nat.le_trans hB hT3.size) os[k].a os[k].vs.length os[k].c os[k].vs ((HO.out.2.2.2 _ (List.getElem_mem hkl)).below (hT3.mono hB)) 200 (by omega))
      have HN1 : Hid (solB 200 os[k].vs = true → ∀ j (h : j < os.length), j < k + 1 → solB 200 os[j].vs = true) := fun h0 j hj hjk => by
        by_cases e : j = k
        · subst e; exact h0
        · exact H.out j hj (by omega)
      have HY : Hid (solB 200 os[k].vs = false → (cont os).all (solB 200) = false) := fun h => by
        cases e : (cont os).all (solB 200) with
        | false => rfl
        | true => rw [List.all_eq_true.1 e os[k].vs (List.mem_map.2 ⟨os[k], List.getElem_mem hkl, rfl⟩)] at h; cases h
      generalize solB 200 os[k].vs = b at *
      generalize os[k].vs.length = m at *
      generalize os[k].a = A1 at *
      generalize os[k].c = c1 at *
      clear H
      subst hA
      go_wp2_with fail
      refine HV.out.mono ?_
      rintro e w3 ⟨rfl, hb3⟩
      clear HV hc1
      cases b with
      | false =>
        have hY := hide (HY.out rfl)
        clear HY HN1
        go_wp2_with fail
        go_ret
        exact ⟨by rw [HL.out.1, HL.out.2, hY.out]; rfl, below_then hT3 hb3⟩
      | true =>
        have hN := hide (HN1.out rfl)
        clear HY HN1
        go_wp2_with fail
        go_roundw
        case rel => exact ⟨k + 1, by omega, by go_num, hN.out, below_then hbel hb3⟩
        case measure => simp [intOf]; omega
    · obtain rfl : k = on := by omega
      have HF : Hid ((cont os).all (solB 200) = true) := List.all_eq_true.2 fun l hl => by
        obtain ⟨s, hs', rfl⟩ := List.mem_map.1 hl
        obtain ⟨j, hj, rfl⟩ := List.getElem_of_mem hs'
        exact H.out j hj (by omega)
      clear H HO
      obtain ⟨y0, y1, y2, y3, y4, y5, y6⟩ := k0.cells7
      by_cases c4 : k ≤ 4
      case neg =>
        go_wp2_with fail
        go_ret
        exact ⟨by first | rfl | (rw [HL.out.1, HL.out.2, HF.out, decide_eq_false c4]; rfl), hT3⟩
      by_cases c5 : tn ≤ 3
      case neg =>
        go_wp2_with fail
        go_ret
        exact ⟨by first | rfl | (rw [HL.out.1, HL.out.2, HF.out, decide_eq_true c4, decide_eq_false c5]; rfl), hT3⟩
      go_wp2_with fail
      refine (H4.out _ hT3).mono ?_
      rintro e w4 ⟨rfl, hb4⟩
      go_wp2_with fail
      go_ret
      exact ⟨by first | rfl | (rw [HL.out.1, HL.out.2, HF.out, decide_eq_true c4, decide_eq_true c5]; rfl), below_then hT3 hb4⟩
end Go.Proofs.Ytocllmaikngoaaa
