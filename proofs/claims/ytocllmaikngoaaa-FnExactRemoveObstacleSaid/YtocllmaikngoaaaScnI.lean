/-
  The program's scenes: contracts (1): isRoom, isSolid, areObstacles, IsValidScene.
-/
import Derived.Test.YtocllmaikngoaaaSB
import Derived.Test.YtocllmaikngoaaaPolI
import Derived.Test.YtocllmaikngoaaaPolI3
namespace Go.Proofs.Ytocllmaikngoaaa
open Go.RowKit
set_option linter.unusedVariables false
set_option maxHeartbeats 1600000 in
theorem impl_isSolid (w : World) (B : Nat) (hB : B ≤ w.heap.size) (A : Option Addr) (n c : Nat) (l : List V2) (R : RdV w B A n l) (m : Int) (hm : 0 ≤ m ∧ m ≤ 1000000) :
    Calls Try.prog 72 #[.slice A n c, .int .i64 m] w fun e w' => e = .returned (.bool (solB m l)) ∧ Below w.heap.size w w' := by
  have HS : Hid (solB m l = (decide (n ≤ 5) && (polyB l && allIn m l))) := by show _ = _; unfold solB; rw [R.1]
  have HP := hide (fun (W : World) (hb : Below w.heap.size w W) => impl_IsPolygon W B (Nat.le_trans hB hb.size) A n c l (R.below (hb.mono hB)))
  have HA := hide (fun (W : World) (hb : Below w.heap.size w W) => impl_areWithin W B (Nat.le_trans hB hb.size) A n c l (R.below (hb.mono hB)) m hm)
  have hl := R.2.2.1
  clear R
  rw [HS.out]
  clear HS
  generalize allIn m l = b3 at *
  by_cases h5 : n ≤ 5
  case neg =>
    rw [decide_eq_false h5]
    go_enter Try.func72, Try.ntmps72
    go_wp2_with fail
    go_ret
    exact ⟨rfl, Below.refl _ _⟩
  rw [decide_eq_true h5]
  cases hp : polyB l with
  | false =>
    rw [hp] at HP
    go_enter Try.func72, Try.ntmps72
    go_wp2_with fail
    refine (HP.out _ (Below.refl _ _)).mono ?_
    rintro e w1 ⟨rfl, hb1⟩
    go_wp2_with fail
    go_ret
    exact ⟨rfl, hb1⟩
  | true =>
    rw [hp] at HP
    go_enter Try.func72, Try.ntmps72
    go_wp2_with fail
    refine (HP.out _ (Below.refl _ _)).mono ?_
    rintro e w1 ⟨rfl, hb1⟩
    go_wp2_with fail
    refine (HA.out _ hb1).mono ?_
    rintro e w2 ⟨rfl, hb2⟩
    go_wp2_with fail
    go_ret
    exact ⟨rfl, below_then hb1 hb2⟩
theorem impl_notSolid (w : World) (B : Nat) (hB : B ≤ w.heap.size) (A : Option Addr) (n c : Nat) (l : List V2) (R : RdV w B A n l) :
    Calls Try.prog 92 #[.slice A n c] w fun e w' => e = .returned (.bool (!solB 200 l)) ∧ Below w.heap.size w w' := by
  have HC := hide (impl_isSolid w B hB A n c l R 200 (by omega))
  clear R
  generalize solB 200 l = b at *
  go_enter Try.func92, Try.ntmps92
  go_wp2_with fail
  refine HC.out.mono ?_
  rintro e w1 ⟨rfl, hb1⟩
  go_wp2_with fail
  go_ret
  exact ⟨rfl, hb1⟩
set_option maxHeartbeats 1600000 in
theorem impl_indexObs (w : World) (B : Nat) (hB : B ≤ w.heap.size) (A : Option Addr) (n c : Nat) (ss : List Sl) (R : RdS w B A n ss) :
    Calls Try.prog 110 #[.slice A n c, .func (.func 92) #[] #[]] w fun e w' => ∃ r : Int, e = .returned (.int .i64 r) ∧ (-1 ≤ r ∧ r ≤ n) ∧ (0 ≤ r ↔ (cont ss).all (solB 200) = false) ∧ Below w.heap.size w w' := by
  obtain ⟨hn, hx, hl, hs⟩ := R
  go_enter Try.func110, Try.ntmps110
  go_wp2_with fail
  go_loopw [8] (fun i wr => ∃ k : Nat, k ≤ n ∧ i = .int .i64 k ∧ Hid (∀ j (h : j < ss.length), j < k → solB 200 ss[j].vs = true) ∧ Below w.heap.size w wr) (fun i _ => n - (intOf i).toNat)
  case atStart => exact ⟨0, Nat.zero_le _, rfl, fun j _ h => absurd h (Nat.not_lt_zero _), Below.refl _ _⟩
  case round =>
    obtain ⟨k, hk, rfl, H, hbel⟩ := hrel
    have hbs := hbel.size
    by_cases hlt : k < n
    · have hkl : k < ss.length := by omega
      obtain ⟨ad, hA, hb1, hc1⟩ := (hx.below (hbel.mono hB)).sl hkl
      have HV := hide (impl_notSolid wr B (by omega) ss[k].a ss[k].vs.length ss[k].c ss[k].vs ((hs _ (List.getElem_mem hkl)).below (hbel.mono hB)))
      have HN1 : Hid (solB 200 ss[k].vs = true → ∀ j (h : j < ss.length), j < k + 1 → solB 200 ss[j].vs = true) := fun h0 j hj hjk => by
        by_cases e : j = k
        · subst e; exact h0
        · exact H.out j hj (by omega)
      have HY : Hid (solB 200 ss[k].vs = false → (cont ss).all (solB 200) = false) := fun h => by
        cases e : (cont ss).all (solB 200) with
        | false => rfl
        | true => rw [List.all_eq_true.1 e ss[k].vs (List.mem_map.2 ⟨ss[k], List.getElem_mem hkl, rfl⟩)] at h; cases h
      generalize solB 200 ss[k].vs = b at *
      generalize ss[k].vs.length = m at *
      generalize ss[k].a = A1 at *
      generalize ss[k].c = c1 at *
      clear H hx hs
      subst hA
      go_wp2_with fail
      refine HV.out.mono ?_
      rintro e w1 ⟨rfl, hb1⟩
      have hbel2 := hbel.trans (hb1.mono hbs)
      clear HV hc1
      cases b with
      | false =>
        have hY := hide (HY.out rfl)
        clear HY HN1
        go_wp2_with fail
        go_ret
        exact ⟨k, rfl, ⟨by omega, by omega⟩, ⟨fun _ => hY.out, fun _ => by omega⟩, hbel2⟩
      | true =>
        have hN := hide (HN1.out rfl)
        clear HY HN1
        go_wp2_with fail
        go_roundw
        case rel => exact ⟨k + 1, by omega, by go_num, hN.out, hbel2⟩
        case measure => simp [intOf]; omega
    · obtain rfl : k = n := by omega
      have HF : Hid ((cont ss).all (solB 200) = true) := List.all_eq_true.2 fun l hl => by
        obtain ⟨s, hs', rfl⟩ := List.mem_map.1 hl
        obtain ⟨j, hj, rfl⟩ := List.getElem_of_mem hs'
        exact H.out j hj (by omega)
      clear H hx hs
      go_wp2_with fail
      go_ret
      exact ⟨-1, rfl, ⟨by omega, by omega⟩, ⟨fun h => by omega, fun h => by rw [HF.out] at h; cases h⟩, hbel⟩
theorem impl_containsObs (w : World) (B : Nat) (hB : B ≤ w.heap.size) (A : Option Addr) (n c : Nat) (ss : List Sl) (R : RdS w B A n ss) :
    Calls Try.prog 91 #[.slice A n c, .func (.func 92) #[] #[]] w fun e w' => e = .returned (.bool (!(cont ss).all (solB 200))) ∧ Below w.heap.size w w' := by
  have HI := hide (impl_indexObs w B hB A n c ss R)
  clear R
  go_enter Try.func91, Try.ntmps91
  go_wp2_with fail
  refine HI.out.mono ?_
  rintro e w1 ⟨r, rfl, hr, hi, hb⟩
  have HE : Hid (decide (0 ≤ r) = !(cont ss).all (solB 200)) := by
    show _ = _
    cases h : (cont ss).all (solB 200) with
    | false => exact decide_eq_true (hi.2 h)
    | true => exact decide_eq_false fun h0 => by rw [hi.1 h0] at h; cases h
  clear hi
  go_wp2_with fail
  go_ret
  exact ⟨by rw [← HE.out]; rfl, hb⟩
theorem impl_areObstacles (w : World) (B : Nat) (hB : B ≤ w.heap.size) (A : Option Addr) (n c : Nat) (ss : List Sl) (R : RdS w B A n ss) :
    Calls Try.prog 73 #[.slice A n c] w fun e w' => e = .returned (.bool (obsB (cont ss))) ∧ Below w.heap.size w w' := by
  have HE : Hid (obsB (cont ss) = (decide (n ≤ 4) && (cont ss).all (solB 200))) := by show _ = _; unfold obsB; rw [cont_len, R.1]
  have HC := hide (impl_containsObs w B hB A n c ss R)
  have hl := R.2.2.1
  clear R
  rw [HE.out]
  clear HE
  generalize (cont ss).all (solB 200) = b at *
  by_cases h4 : n ≤ 4
  · rw [decide_eq_true h4]
    go_enter Try.func73, Try.ntmps73
    go_wp2_with fail
    refine HC.out.mono ?_
    rintro e w1 ⟨rfl, hb1⟩
    go_wp2_with fail
    go_ret
    exact ⟨by cases b <;> rfl, hb1⟩
  · rw [decide_eq_false h4]
    go_enter Try.func73, Try.ntmps73
    go_wp2_with fail
    go_ret
    exact ⟨rfl, Below.refl _ _⟩
set_option maxHeartbeats 1600000 in
theorem impl_isLowerLeftOf (w : World) (lx ly hx hy : Int) :
    Calls Try.prog 89 #[.agg #[.int .i64 lx, .int .i64 ly], .agg #[.int .i64 hx, .int .i64 hy]] w fun e w' => e = .returned (.bool (decide (lx < hx) && decide (ly < hy))) ∧ Below w.heap.size w w' := by
  obtain ⟨W0, hW0⟩ : ∃ W0, W0 = (w.alloc (.cells #[.int .i64 lx, .int .i64 ly] 29)).alloc (.cells #[.int .i64 hx, .int .i64 hy] 29) := ⟨_, rfl⟩
  have hT0 : Below w.heap.size w W0 := by rw [hW0]; exact below_alloc (below_new _ _) _
  have kp : Box W0 w.heap.size 29 #[.int .i64 lx, .int .i64 ly] := by rw [hW0]; exact (Box.last _ _ _ rfl).alloc _
  have kq : Box W0 (w.heap.size + 1) 29 #[.int .i64 hx, .int .i64 hy] := by rw [hW0]; exact Box.last _ _ _ (alloc_size _ _).symm
  go_enter Try.func89, Try.ntmps89
  go_upto_region 1 with fail
  rw [← hW0]
  clear hW0
  obtain ⟨yp0, yp1⟩ := kp.cells2
  obtain ⟨yq0, yq1⟩ := kq.cells2
  clear kp kq
  by_cases c1 : lx < hx
  · by_cases c2 : ly < hy
    · go_wp2_with fail
      go_ret
      exact ⟨by first | rfl | (simp; omega), hT0⟩
    · go_wp2_with fail
      go_ret
      exact ⟨by first | rfl | (simp; omega), hT0⟩
  · go_wp2_with fail
    go_ret
    exact ⟨by first | rfl | (simp; omega), hT0⟩
set_option maxRecDepth 100000 in
set_option maxHeartbeats 3200000 in
theorem impl_isRoom (w : World) (lx ly hx hy : Int) (hlx : (Lit.int .i64 lx).wf = true) (hly : (Lit.int .i64 ly).wf = true) (hhx : (Lit.int .i64 hx).wf = true) (hhy : (Lit.int .i64 hy).wf = true) :
    Calls Try.prog 71 #[.agg #[.int .i64 lx, .int .i64 ly], .agg #[.int .i64 hx, .int .i64 hy]] w fun e w' => e = .returned (.bool (roomB lx ly hx hy)) ∧ Below w.heap.size w w' := by
  have H1 := hide (fun (W : World) => impl_isWithin W lx ly 200 hlx hly (by omega))
  have H2 := hide (fun (W : World) => impl_isWithin W hx hy 200 hhx hhy (by omega))
  have H3 := hide (fun (W : World) => impl_isLowerLeftOf W lx ly hx hy)
  have HE : Hid (roomB lx ly hx hy = (inB 200 lx ly && (inB 200 hx hy && (decide (lx < hx) && decide (ly < hy))))) := rfl
  rw [HE.out]
  clear HE hlx hly hhx hhy
  generalize inB 200 lx ly = b1 at *
  generalize inB 200 hx hy = b2 at *
  generalize (decide (lx < hx) && decide (ly < hy)) = b3 at *
  obtain ⟨W0, hW0⟩ : ∃ W0, W0 = (w.alloc (.cells #[.int .i64 lx, .int .i64 ly] 29)).alloc (.cells #[.int .i64 hx, .int .i64 hy] 29) := ⟨_, rfl⟩
  have hT0 : Below w.heap.size w W0 := by rw [hW0]; exact below_alloc (below_new _ _) _
  have kp : Box W0 w.heap.size 29 #[.int .i64 lx, .int .i64 ly] := by rw [hW0]; exact (Box.last _ _ _ rfl).alloc _
  have kq : Box W0 (w.heap.size + 1) 29 #[.int .i64 hx, .int .i64 hy] := by rw [hW0]; exact Box.last _ _ _ (alloc_size _ _).symm
  go_enter Try.func71, Try.ntmps71
  go_upto_region 1 with fail
  rw [← hW0]
  clear hW0
  obtain ⟨yp0, yp1⟩ := kp.cells2
  obtain ⟨yq0, yq1⟩ := kq.cells2
  cases b1 with
  | false =>
    go_wp2_with fail
    refine (H1.out _).mono ?_
    rintro e w1 ⟨rfl, hb1⟩
    go_wp2_with fail
    go_ret
    exact ⟨rfl, below_then hT0 hb1⟩
  | true =>
    cases b2 with
    | false =>
      go_wp2_with fail
      refine (H1.out _).mono ?_
      rintro e w1 ⟨rfl, hb1⟩
      clear yp0 yp1 yq0 yq1
      obtain ⟨yq0, yq1⟩ := (kq.below hb1 kq.lt).cells2
      go_wp2_with fail
      refine (H2.out _).mono ?_
      rintro e w2 ⟨rfl, hb2⟩
      go_wp2_with fail
      go_ret
      exact ⟨rfl, below_then (below_then hT0 hb1) hb2⟩
    | true =>
      go_wp2_with fail
      refine (H1.out _).mono ?_
      rintro e w1 ⟨rfl, hb1⟩
      clear yp0 yp1 yq0 yq1
      have kp := kp.below hb1 kp.lt
      have kq := kq.below hb1 kq.lt
      obtain ⟨yq0, yq1⟩ := kq.cells2
      go_wp2_with fail
      refine (H2.out _).mono ?_
      rintro e w2 ⟨rfl, hb2⟩
      clear yq0 yq1
      have kp := kp.below hb2 kp.lt
      have kq := kq.below hb2 kq.lt
      obtain ⟨yp0, yp1⟩ := kp.cells2
      obtain ⟨yq0, yq1⟩ := kq.cells2
      have hT2 := below_then (below_then hT0 hb1) hb2
      clear kp kq hb1 hb2 hT0 H1 H2
      go_wp2_with fail
      refine (H3.out _).mono ?_
      rintro e w3 ⟨rfl, hb3⟩
      go_wp2_with fail
      go_ret
      exact ⟨rfl, below_then hT2 hb3⟩
set_option maxRecDepth 100000 in
set_option maxHeartbeats 3200000 in
theorem impl_IsValidScene (w : World) (B : Nat) (hB : B ≤ w.heap.size) {v0 v1 v2 v3 v4 v5 v6 : Value} {S : Scn} (h : SIn w B v0 v1 v2 v3 v4 v5 v6 S) :
    Calls Try.prog 53 #[.agg #[v0, v1, v2, v3, v4, v5, v6]] w fun e w' => e = .returned (.bool (scnB S)) ∧ Below w.heap.size w w' := by
  obtain ⟨RA, rc, OA, oc, TA, tc, os, ⟨rfl, rfl, rfl, rfl, rfl, rfl, rfl⟩, hR, ⟨hO, hc⟩, hT, ⟨hlx, hly⟩, hhx, hhy⟩ := h
  have H1 := hide (fun (W : World) => impl_isRoom W S.lx S.ly S.hx S.hy hlx hly hhx hhy)
  have H2 := hide (fun (W : World) (hb : Below w.heap.size w W) => impl_isSolid W B (Nat.le_trans hB hb.size) RA S.r.length rc S.r (hR.below (hb.mono hB)) 20 (by omega))
  have H3 := hide (fun (W : World) (hb : Below w.heap.size w W) => impl_areObstacles W B (Nat.le_trans hB hb.size) OA S.o.length oc os (hO.below (hb.mono hB)))
  have H4 := hide (fun (W : World) (hb : Below w.heap.size w W) => impl_areWithin W B (Nat.le_trans hB hb.size) TA S.t.length tc S.t (hT.below (hb.mono hB)) 200 (by omega))
  rw [hc] at H3
  have HE : Hid (scnB S = (roomB S.lx S.ly S.hx S.hy && (solB 20 S.r && (obsB S.o && (decide (S.t.length ≤ 3) && allIn 200 S.t))))) := rfl
  have hl3 := hT.2.2.1
  rw [HE.out]
  clear HE hR hO hT hlx hly hhx hhy hc
  generalize roomB S.lx S.ly S.hx S.hy = b1 at *
  generalize solB 20 S.r = b2 at *
  generalize obsB S.o = b3 at *
  generalize allIn 200 S.t = b5 at *
  generalize S.r.length = rn at *
  generalize S.o.length = on at *
  generalize S.t.length = tn at *
  generalize S.lx = lx at *
  generalize S.ly = ly at *
  generalize S.hx = hx at *
  generalize S.hy = hy at *
  obtain ⟨W0, hW0⟩ : ∃ W0, W0 = w.alloc (.cells #[.int .i64 lx, .int .i64 ly, .int .i64 hx, .int .i64 hy, .slice RA rn rc, .slice OA on oc, .slice TA tn tc] 33) := ⟨_, rfl⟩
  have hT0 : Below w.heap.size w W0 := by rw [hW0]; exact below_new _ _
  have k0 : Box W0 w.heap.size 33 #[.int .i64 lx, .int .i64 ly, .int .i64 hx, .int .i64 hy, .slice RA rn rc, .slice OA on oc, .slice TA tn tc] := by rw [hW0]; exact Box.last _ _ _ rfl
  go_enter Try.func53, Try.ntmps53
  go_upto_region 1 with fail
  rw [← hW0]
  clear hW0
  cases b1 with
  | false =>
    obtain ⟨y0, y1, y2, y3, y4, y5, y6⟩ := k0.cells7
    go_wp2_with fail
    refine (H1.out _).mono ?_
    rintro e w1 ⟨rfl, hb1⟩
    clear y0 y1 y2 y3 y4 y5 y6
    have k0 := k0.below hb1 k0.lt
    have hT1 := below_then hT0 hb1
    clear hb1 hT0
    obtain ⟨y0, y1, y2, y3, y4, y5, y6⟩ := k0.cells7
    go_wp2_with fail
    go_ret
    exact ⟨by first | rfl | (simp; done) | (simp; omega), hT1⟩
  | true =>
  cases b2 with
  | false =>
    obtain ⟨y0, y1, y2, y3, y4, y5, y6⟩ := k0.cells7
    go_wp2_with fail
    refine (H1.out _).mono ?_
    rintro e w1 ⟨rfl, hb1⟩
    clear y0 y1 y2 y3 y4 y5 y6
    have k0 := k0.below hb1 k0.lt
    have hT1 := below_then hT0 hb1
    clear hb1 hT0
    obtain ⟨y0, y1, y2, y3, y4, y5, y6⟩ := k0.cells7
    go_wp2_with fail
    refine (H2.out _ hT1).mono ?_
    rintro e w2 ⟨rfl, hb2⟩
    clear y0 y1 y2 y3 y4 y5 y6
    have k0 := k0.below hb2 k0.lt
    have hT2 := below_then hT1 hb2
    clear hb2 hT1
    obtain ⟨y0, y1, y2, y3, y4, y5, y6⟩ := k0.cells7
    go_wp2_with fail
    go_ret
    exact ⟨by first | rfl | (simp; done) | (simp; omega), hT2⟩
  | true =>
  cases b3 with
  | false =>
    obtain ⟨y0, y1, y2, y3, y4, y5, y6⟩ := k0.cells7
    go_wp2_with fail
    refine (H1.out _).mono ?_
    rintro e w1 ⟨rfl, hb1⟩
    clear y0 y1 y2 y3 y4 y5 y6
    have k0 := k0.below hb1 k0.lt
    have hT1 := below_then hT0 hb1
    clear hb1 hT0
    obtain ⟨y0, y1, y2, y3, y4, y5, y6⟩ := k0.cells7
    go_wp2_with fail
    refine (H2.out _ hT1).mono ?_
    rintro e w2 ⟨rfl, hb2⟩
    clear y0 y1 y2 y3 y4 y5 y6
    have k0 := k0.below hb2 k0.lt
    have hT2 := below_then hT1 hb2
    clear hb2 hT1
    obtain ⟨y0, y1, y2, y3, y4, y5, y6⟩ := k0.cells7
    go_wp2_with fail
    refine (H3.out _ hT2).mono ?_
    rintro e w3 ⟨rfl, hb3⟩
    clear y0 y1 y2 y3 y4 y5 y6
    have k0 := k0.below hb3 k0.lt
    have hT3 := below_then hT2 hb3
    clear hb3 hT2
    obtain ⟨y0, y1, y2, y3, y4, y5, y6⟩ := k0.cells7
    go_wp2_with fail
    go_ret
    exact ⟨by first | rfl | (simp; done) | (simp; omega), hT3⟩
  | true =>
  by_cases c3 : tn ≤ 3
  case neg =>
    obtain ⟨y0, y1, y2, y3, y4, y5, y6⟩ := k0.cells7
    go_wp2_with fail
    refine (H1.out _).mono ?_
    rintro e w1 ⟨rfl, hb1⟩
    clear y0 y1 y2 y3 y4 y5 y6
    have k0 := k0.below hb1 k0.lt
    have hT1 := below_then hT0 hb1
    clear hb1 hT0
    obtain ⟨y0, y1, y2, y3, y4, y5, y6⟩ := k0.cells7
    go_wp2_with fail
    refine (H2.out _ hT1).mono ?_
    rintro e w2 ⟨rfl, hb2⟩
    clear y0 y1 y2 y3 y4 y5 y6
    have k0 := k0.below hb2 k0.lt
    have hT2 := below_then hT1 hb2
    clear hb2 hT1
    obtain ⟨y0, y1, y2, y3, y4, y5, y6⟩ := k0.cells7
    go_wp2_with fail
    refine (H3.out _ hT2).mono ?_
    rintro e w3 ⟨rfl, hb3⟩
    clear y0 y1 y2 y3 y4 y5 y6
    have k0 := k0.below hb3 k0.lt
    have hT3 := below_then hT2 hb3
    clear hb3 hT2
    obtain ⟨y0, y1, y2, y3, y4, y5, y6⟩ := k0.cells7
    go_wp2_with fail
    go_ret
    exact ⟨by first | rfl | (simp; done) | (simp; omega), hT3⟩
  case pos =>
    obtain ⟨y0, y1, y2, y3, y4, y5, y6⟩ := k0.cells7
    go_wp2_with fail
    refine (H1.out _).mono ?_
    rintro e w1 ⟨rfl, hb1⟩
    clear y0 y1 y2 y3 y4 y5 y6
    have k0 := k0.below hb1 k0.lt
    have hT1 := below_then hT0 hb1
    clear hb1 hT0
    obtain ⟨y0, y1, y2, y3, y4, y5, y6⟩ := k0.cells7
    go_wp2_with fail
    refine (H2.out _ hT1).mono ?_
    rintro e w2 ⟨rfl, hb2⟩
    clear y0 y1 y2 y3 y4 y5 y6
    have k0 := k0.below hb2 k0.lt
    have hT2 := below_then hT1 hb2
    clear hb2 hT1
    obtain ⟨y0, y1, y2, y3, y4, y5, y6⟩ := k0.cells7
    go_wp2_with fail
    refine (H3.out _ hT2).mono ?_
    rintro e w3 ⟨rfl, hb3⟩
    clear y0 y1 y2 y3 y4 y5 y6
    have k0 := k0.below hb3 k0.lt
    have hT3 := below_then hT2 hb3
    clear hb3 hT2
    obtain ⟨y0, y1, y2, y3, y4, y5, y6⟩ := k0.cells7
    go_wp2_with fail
    refine (H4.out _ hT3).mono ?_
    rintro e w4 ⟨rfl, hb4⟩
    clear y0 y1 y2 y3 y4 y5 y6
    have k0 := k0.below hb4 k0.lt
    have hT4 := below_then hT3 hb4
    clear hb4 hT3
    obtain ⟨y0, y1, y2, y3, y4, y5, y6⟩ := k0.cells7
    go_wp2_with fail
    go_ret
    exact ⟨by first | rfl | (simp; done) | (simp; omega), hT4⟩
end Go.Proofs.Ytocllmaikngoaaa
