/-
  The texts PntL3, PntL4, PtS, put together; each has its own heading below. No condition of ours.
-/
import Derived.Test.YtocllmaikngoaaaGreatDoorPN
import Derived.Test.YtocllmaikngoaaaGreatDoorLB
import Derived.Test.YtocllmaikngoaaaGreatDoorPT
/-
  The laws' helpers over lists of points (3): markPointS.
-/

namespace Go.Proofs.YtocllmaikngoaaaGreatDoor
open Go.RowKit
set_option linter.unusedVariables false
theorem row_get {a b : List Value} {c0 c1 c2 c3 c4 c5 : Value} {m : Nat} (h : a.length = m) : (a ++ c0 :: c1 :: c2 :: c3 :: c4 :: c5 :: b)[m + 1]? = some c1 ∧ (a ++ c0 :: c1 :: c2 :: c3 :: c4 :: c5 :: b)[m + 2]? = some c2 ∧ (a ++ c0 :: c1 :: c2 :: c3 :: c4 :: c5 :: b)[m + 4]? = some c4 ∧ (a ++ c0 :: c1 :: c2 :: c3 :: c4 :: c5 :: b)[m + 5]? = some c5 ∧ (a ++ c0 :: c1 :: c2 :: c3 :: c4 :: c5 :: b)[m]? = some c0 ∧ (a ++ c0 :: c1 :: c2 :: c3 :: c4 :: c5 :: b)[m + 3]? = some c3 := by
  subst h
  simp
theorem mk_split {ps : List Pr} {k j : Nat} (h : j < ps.length) : (mkPs k ps).take j ++ ps.drop j = (mkPs k ps).take j ++ (ps[j] :: ps.drop (j + 1)) := by rw [List.getElem_cons_drop]
theorem mk_len {ps : List Pr} {k j : Nat} (h : j < ps.length) : (prc ((mkPs k ps).take j)).length = j * 6 := by rw [prc_len, List.length_take, mkPs_len]; omega
set_option maxRecDepth 100000 in
set_option maxHeartbeats 6400000 in
theorem markPS_own (w : World) (v : Value) (n k lo hi : Nat) (ps : List Pr) (o : OwnPS w lo hi 49 3 v n ps) (hl : n ≤ 1000000 ∧ sizL (pts ps) ≤ 300000000) (hs : ∀ s ∈ ps, sizN s.p ≤ 90000000) (hk : k ≤ 300000000) :
    Calls Tryz.prog 17 #[v, .int .i64 k] w fun e w' => e = .returned (.int .i64 ((k + sizL (pts ps) : Nat) : Int)) ∧ OwnPS w' lo hi 49 3 v n (mkPs k ps) ∧ Aside lo hi w w' := by
  have hlen := o.len
  obtain ⟨hown, hgs, hI⟩ := o
  rcases own_form hown with ⟨rfl, rfl, hxs⟩ | ⟨g, c, rfl, hbg, hg⟩
  · have e : ps = [] := List.eq_nil_of_length_eq_zero hlen
    subst e
    go_enter Tryz.func17, Tryz.ntmps17
    go_wp2
    refine wp_loop_rounds 1 ?_
    rw [rounds_succ]
    go_wp2
    go_ret
    exact ⟨by simp [pts, sizL], OwnPS.nil _ _ _ _ _, Aside.refl _⟩
  · clear hg
    have hgh : g < hi := hgs g rfl
    go_enter Tryz.func17, Tryz.ntmps17
    go_wp2
    go_loopw [1, 5] (fun q i wr => ∃ j : Nat, j ≤ n ∧ q = .int .i64 ((k + sizL ((pts ps).take j) : Nat) : Int) ∧ i = .int .i64 j ∧ wr.ownsRow lo 49 6 (.slice (some ⟨g, 0, none⟩) n c) n (prc ((mkPs k ps).take j ++ ps.drop j)) ∧ Ivs wr lo hi 3 (sls ((mkPs k ps).take j ++ ps.drop j)) ∧ Aside lo hi w wr) (fun _ i _ => n - (intOf i).toNat)
    case atStart => exact ⟨0, Nat.zero_le _, by simp [sizL], rfl, by simpa using hown, by simpa using hI, Aside.refl _⟩
    case round =>
      clear hown hI
      obtain ⟨j, hj, rfl, rfl, hown, hI, ha⟩ := hrel
      by_cases hlt : j < n
      · have hjl : j < ps.length := by omega
        have hm := mk_len (k := k) hjl
        have HS := hide (And.intro (sizL_take hjl) (mkPs_take ps k j hjl))
        have hsz := hs _ (List.getElem_mem hjl)
        have hs1 := sizL_take_le (pts ps) j
        rw [mk_split hjl, prc_append, show prc (ps[j] :: ps.drop (j + 1)) = ps[j].cells ++ prc (ps.drop (j + 1)) from by unfold prc; rw [List.flatMap_cons]] at hown
        rw [mk_split hjl, sls_append, show sls (ps[j] :: ps.drop (j + 1)) = ps[j].sl ++ sls (ps.drop (j + 1)) from by unfold sls; rw [List.flatMap_cons]] at hI
        have HFIN : Hid (prc ((mkPs k ps).take (j + 1) ++ ps.drop (j + 1)) = prc ((mkPs k ps).take j) ++ ((mkPr (k + sizL ((pts ps).take j)) ps[j]).cells ++ prc (ps.drop (j + 1))) ∧ sls ((mkPs k ps).take (j + 1) ++ ps.drop (j + 1)) = sls ((mkPs k ps).take j) ++ ((mkPr (k + sizL ((pts ps).take j)) ps[j]).sl ++ sls (ps.drop (j + 1)))) := by
          constructor
          · rw [HS.out.2, prc_append, prc_append, prc_one, List.append_assoc]
          · rw [HS.out.2, sls_append, sls_append, sls_one, List.append_assoc]
        obtain ⟨K, hK⟩ : ∃ K, K = k + sizL ((pts ps).take j) := ⟨_, rfl⟩
        have HEND : Hid (k + sizL ((pts ps).take (j + 1)) = K + sizN ps[j].p) := by show _ = _; rw [HS.out.1, hK]; omega
        rw [← hK] at HFIN ⊢
        have hKb : K ≤ 600000000 := by omega
        obtain ⟨X1, hX1⟩ : ∃ z, z = prc ((mkPs k ps).take j) := ⟨_, rfl⟩
        obtain ⟨X2, hX2⟩ : ∃ z, z = prc (ps.drop (j + 1)) := ⟨_, rfl⟩
        obtain ⟨Y1, hY1⟩ : ∃ z, z = sls ((mkPs k ps).take j) := ⟨_, rfl⟩
        obtain ⟨Y2, hY2⟩ : ∃ z, z = sls (ps.drop (j + 1)) := ⟨_, rfl⟩
        rw [← hX1, ← hX2] at hown HFIN
        rw [← hY1, ← hY2] at hI HFIN
        rw [← hX1] at hm
        obtain ⟨s, hss⟩ : ∃ s, s = ps[j] := ⟨_, rfl⟩
        rw [← hss] at hown hI HFIN HEND hsz
        clear hX1 hX2 hY1 hY2 hss HS hK hs1
        obtain ⟨a1, c1, a2, c2, a4, c4, a5, c5, ⟨⟨⟨b0, l1⟩, l2⟩, ⟨⟨b3, l4⟩, l5⟩⟩⟩ := s
        simp only [Pr.cells, Pr.sl, Pr.s1, Pr.s2, Pr.s4, Pr.s5, List.cons_append, List.nil_append, mkPr, markN, marksI_len] at hown hI HFIN
        simp only [sizN] at HEND hsz
        obtain ⟨z1, z2, z4, z5, z0, z3⟩ := row_get (a := X1) (b := X2) (c0 := .bool b0) (c1 := .slice a1 l1.length c1) (c2 := .slice a2 l2.length c2) (c3 := .bool b3) (c4 := .slice a4 l4.length c4) (c5 := .slice a5 l5.length c5) hm
        have y0 : wr.cell? ⟨g, j * 6, none⟩ = some (.bool b0) := (hown.cellAt (j * 6) (by omega)).trans z0
        have f0 := hown.frozenAt (j * 6)
        have hj0 : (0 : Int) ≤ (j : Int) := Int.natCast_nonneg _
        have hj1 : (j : Int) < (n : Int) := by omega
        have hK0 : (0 : Int) ≤ (K : Int) := Int.natCast_nonneg _
        have hK1 : (K : Int) ≤ 600000000 := by omega
        have HB0 : Hid (((K : Int) % 3 == 0) = decide (K % 3 = 0)) := by show _ = _; rw [Bool.eq_iff_iff]; simp; omega
        obtain ⟨h1, -⟩ := hown.stored (j * 6) (.bool (decide (K % 3 = 0)))
        rw [set_cell0 hm] at h1
        have i1 := hI.setRow (j := j * 6) (u := .bool (decide (K % 3 = 0))) hown rfl Tryz.types_pt
        obtain ⟨w1, hw1⟩ : ∃ x, x = wr.setCell ⟨g, j * 6, none⟩ (.bool (decide (K % 3 = 0))) := ⟨_, rfl⟩
        have hAw1 : Aside lo hi w w1 := by rw [hw1]; exact ha.setCell (a := ⟨g, j * 6, none⟩) hbg hgh _
        rw [← hw1] at h1 i1
        have hrw1 := h1
        have hiw1 := i1
        clear h1 i1 hown hI ha z1 z2 z4 z5 z0 z3
        go_upto_region 5 with fail
        rw [HB0.out, ← hw1]
        clear hw1 y0 f0 HB0
        obtain ⟨z1, z2, z4, z5, z0, z3⟩ := row_get (a := X1) (b := X2) (c0 := Value.bool (decide (K % 3 = 0))) (c1 := .slice a1 l1.length c1) (c2 := .slice a2 l2.length c2) (c3 := .bool b3) (c4 := .slice a4 l4.length c4) (c5 := .slice a5 l5.length c5) hm
        have y1 : w1.cell? ⟨g, j * 6 + 1, none⟩ = some (.slice a1 l1.length c1) := (hrw1.cellAt (j * 6 + 1) (by omega)).trans z1
        have C1 := hide (mark_el w1 lo hi 3 49 Y1 ((.slice a2 l2.length c2, l2) :: (.slice a4 l4.length c4, l4) :: (.slice a5 l5.length c5, l5) :: Y2) a1 c1 l1 (K + 1) lo n 6 _ _ Tryz.types_pt hiw1 hrw1 (by omega) (by omega) ((K : Int) + 1) (by omega))
        go_wp2_with fail
        refine C1.out.mono ?_
        rintro e w2 ⟨K2, hK2, rfl, hiw2, ha2, hrw2⟩
        have bK2 : K2 ≤ 700000000 := by omega
        have HK2 := hide hK2
        clear hK2
        have hAw2 := hAw1.trans ha2
        clear y1 C1 ha2 hAw1 hiw1 hrw1
        have y2 : w2.cell? ⟨g, j * 6 + 2, none⟩ = some (.slice a2 l2.length c2) := (hrw2.cellAt (j * 6 + 2) (by omega)).trans z2
        have C2 := hide (mark_el w2 lo hi 3 49 (Y1 ++ [(.slice a1 l1.length c1, marksI (K + 1) l1.length)]) ((.slice a4 l4.length c4, l4) :: (.slice a5 l5.length c5, l5) :: Y2) a2 c2 l2 K2 lo n 6 _ _ Tryz.types_pt (by simpa using hiw2) hrw2 (by omega) (by omega) (K2 : Int) rfl)
        go_wp2_with fail
        refine C2.out.mono ?_
        rintro e w3 ⟨K3, hK3, rfl, hiw3, ha3, hrw3⟩
        have bK3 : K3 ≤ 790000000 := by omega
        have HK3 := hide hK3
        clear hK3
        have hAw3 := hAw2.trans ha3
        clear y2 C2 ha3 hAw2 hiw2 hrw2
        have HB3 : Hid (((K3 : Int) % 3 == 0) = decide (K3 % 3 = 0)) := by show _ = _; rw [Bool.eq_iff_iff]; simp; omega
        have y3 : w3.cell? ⟨g, j * 6 + 3, none⟩ = some (.bool b3) := (hrw3.cellAt (j * 6 + 3) (by omega)).trans z3
        have f3 := hrw3.frozenAt (j * 6 + 3)
        have hK30 : (0 : Int) ≤ (K3 : Int) := Int.natCast_nonneg _
        have hK31 : (K3 : Int) ≤ 900000000 := by omega
        obtain ⟨h4, -⟩ := hrw3.stored (j * 6 + 3) (.bool (decide (K3 % 3 = 0)))
        rw [set_cell3 hm] at h4
        have i4 := hiw3.setRow (j := j * 6 + 3) (u := .bool (decide (K3 % 3 = 0))) hrw3 rfl Tryz.types_pt
        obtain ⟨w4, hw4⟩ : ∃ x, x = w3.setCell ⟨g, j * 6 + 3, none⟩ (.bool (decide (K3 % 3 = 0))) := ⟨_, rfl⟩
        have hAw4 : Aside lo hi w w4 := by rw [hw4]; exact hAw3.setCell (a := ⟨g, j * 6 + 3, none⟩) hbg hgh _
        rw [← hw4] at h4 i4
        have hrw4 := h4
        have hiw4 := i4
        clear h4 i4 hiw3 hrw3 hAw3 z1 z2 z4 z5 z0 z3
        go_upto_region 9 with fail
        rw [HB3.out, ← hw4]
        clear hw4 y3 f3 HB3
        obtain ⟨z1, z2, z4, z5, z0, z3⟩ := row_get (a := X1) (b := X2) (c0 := Value.bool (decide (K % 3 = 0))) (c1 := .slice a1 l1.length c1) (c2 := .slice a2 l2.length c2) (c3 := Value.bool (decide (K3 % 3 = 0))) (c4 := .slice a4 l4.length c4) (c5 := .slice a5 l5.length c5) hm
        have y4 : w4.cell? ⟨g, j * 6 + 4, none⟩ = some (.slice a4 l4.length c4) := (hrw4.cellAt (j * 6 + 4) (by omega)).trans z4
        have C4 := hide (mark_el w4 lo hi 3 49 (Y1 ++ [(.slice a1 l1.length c1, marksI (K + 1) l1.length), (.slice a2 l2.length c2, marksI K2 l2.length)]) ((.slice a5 l5.length c5, l5) :: Y2) a4 c4 l4 (K3 + 1) lo n 6 _ _ Tryz.types_pt (by simpa using hiw4) hrw4 (by omega) (by omega) ((K3 : Int) + 1) (by omega))
        go_wp2_with fail
        refine C4.out.mono ?_
        rintro e w5 ⟨K4, hK4, rfl, hiw5, ha5, hrw5⟩
        have bK4 : K4 ≤ 880000000 := by omega
        have HK4 := hide hK4
        clear hK4
        have hAw5 := hAw4.trans ha5
        clear y4 C4 ha5 hAw4 hiw4 hrw4
        have y5 : w5.cell? ⟨g, j * 6 + 5, none⟩ = some (.slice a5 l5.length c5) := (hrw5.cellAt (j * 6 + 5) (by omega)).trans z5
        have C5 := hide (mark_el w5 lo hi 3 49 (Y1 ++ [(.slice a1 l1.length c1, marksI (K + 1) l1.length), (.slice a2 l2.length c2, marksI K2 l2.length), (.slice a4 l4.length c4, marksI (K3 + 1) l4.length)]) Y2 a5 c5 l5 K4 lo n 6 _ _ Tryz.types_pt (by simpa using hiw5) hrw5 (by omega) (by omega) (K4 : Int) rfl)
        go_wp2_with fail
        refine C5.out.mono ?_
        rintro e w6 ⟨K5, hK5, rfl, hiw6, ha6, hrw6⟩
        have bK5 : K5 ≤ 980000000 := by omega
        have HK5 := hide hK5
        clear hK5
        have hAw6 := hAw5.trans ha6
        clear y5 C5 ha6 hAw5 hiw5 hrw5
        have hK2 := HK2.out
        have hK3 := HK3.out
        have hK4 := HK4.out
        have hK5 := HK5.out
        subst hK2 hK3 hK4
        have HN := hide (And.intro hrw6 hiw6)
        have HEQ : Hid ((K5 : Int) = ((k + sizL ((pts ps).take (j + 1)) : Nat) : Int)) := by show _ = _; rw [HEND.out, hK5]; omega
        clear hrw6 hiw6 hK5 z1 z2 z4 z5 z0 z3
        go_wp2_with fail
        go_roundw
        case rel => exact ⟨j + 1, by omega, by rw [HEQ.out], by go_num, by rw [HFIN.out.1]; exact HN.out.1, by rw [HFIN.out.2]; simpa using HN.out.2, hAw6⟩
        case measure => simp [intOf]; omega
      · obtain rfl : j = n := by omega
        rw [mkPs_all k ps (by omega), List.drop_of_length_le (by omega), List.append_nil] at hown hI
        rw [sizL_all ps (by omega)]
        go_wp2
        go_ret
        exact ⟨rfl, ⟨hown, hgs, hI⟩, ha⟩
end Go.Proofs.YtocllmaikngoaaaGreatDoor

/-
  The laws' helpers over lists of points (4): heldPointS.
-/

namespace Go.Proofs.YtocllmaikngoaaaGreatDoor
open Go.RowKit
set_option linter.unusedVariables false
set_option maxRecDepth 100000 in
set_option maxHeartbeats 6400000 in
theorem heldPS_own (w : World) (A : Option Addr) (n c k lo hi : Nat) (ps : List Pr) (o : OwnPS w lo hi 49 3 (.slice A n c) n (mkPs k ps)) (hl : n ≤ 1000000 ∧ sizL (pts ps) ≤ 300000000) (hs : ∀ s ∈ ps, sizN s.p ≤ 90000000) (hk : k ≤ 300000000) :
    Calls Tryz.prog 18 #[.slice A n c, .int .i64 k] w fun e w' => e = .returned (.int .i64 ((k + sizL (pts ps) : Nat) : Int)) ∧ w = w' := by
  have hlen := o.len
  rw [mkPs_len] at hlen
  have hx : Rd w w.heap.size A (prc (mkPs k ps)) := by
    rcases own_form o.1 with ⟨_, _, hx⟩ | ⟨g, c', hv, _, hg⟩
    · exact .inl hx
    · injection hv with e1 _ e3
      subst e1 e3
      refine .inr ⟨⟨g, 0, none⟩, rfl, (o.1.lt g rfl).2, fun j u hu => ?_⟩
      have hj := (List.getElem?_eq_some_iff.1 hu).1
      have hl2 := o.1.1
      rw [Addr.add_lit, Nat.zero_add, o.1.cellAt j (by omega)]
      exact hu
  have HEL := hide (fun (s : Pr) (h : s ∈ mkPs k ps) => o.elt h)
  clear o
  go_enter Tryz.func18, Tryz.ntmps18
  go_wp2
  go_loop [1, 5] (fun q i => ∃ j : Nat, j ≤ n ∧ q = .int .i64 ((k + sizL ((pts ps).take j) : Nat) : Int) ∧ i = .int .i64 j) (fun _ i => n - (intOf i).toNat)
  case atStart => exact ⟨0, Nat.zero_le _, by simp [sizL], rfl⟩
  case round =>
    obtain ⟨j, hj, rfl, rfl⟩ := hrel
    by_cases hlt : j < n
    · have hjl : j < ps.length := by omega
      have hjm : j < (mkPs k ps).length := by rw [mkPs_len]; exact hjl
      obtain ⟨ad, hA, hb1, y0, y1, y2, y3, y4, y5⟩ := hx.pt hjm
      obtain ⟨o1, o2, o4, o5⟩ := HEL.out _ (List.getElem_mem hjm)
      have hat : (mkPs k ps)[j] = mkPr (k + sizL ((pts ps).take j)) ps[j] := by
        have e := mkPs_take ps k j hjl
        have e2 : ((mkPs k ps).take (j + 1))[j]? = some (mkPs k ps)[j] := by rw [List.getElem?_take, if_pos (by omega), List.getElem?_eq_getElem hjm]
        rw [e, List.getElem?_append_right (by rw [List.length_take, mkPs_len]; omega), List.length_take, mkPs_len, show j - min j ps.length = 0 by omega] at e2
        simpa using e2.symm
      have hsz := hs _ (List.getElem_mem hjl)
      have hs1 := sizL_take_le (pts ps) j
      obtain ⟨K, hK⟩ : ∃ K, K = k + sizL ((pts ps).take j) := ⟨_, rfl⟩
      have HEND : Hid (k + sizL ((pts ps).take (j + 1)) = K + sizN ps[j].p) := by show _ = _; rw [sizL_take hjl, hK]; omega
      rw [← hK] at hat ⊢
      rw [hat] at y0 y1 y2 y3 y4 y5 o1 o2 o4 o5
      have hKb : K ≤ 600000000 := by omega
      obtain ⟨s, hss⟩ : ∃ s, s = ps[j] := ⟨_, rfl⟩
      rw [← hss] at y0 y1 y2 y3 y4 y5 o1 o2 o4 o5 HEND hsz
      clear hss hat hK hs1 HEL hjm hs
      obtain ⟨a1, c1, a2, c2, a4, c4, a5, c5, ⟨⟨⟨b0, l1⟩, l2⟩, ⟨⟨b3, l4⟩, l5⟩⟩⟩ := s
      simp only [Pr.s1, Pr.s2, Pr.s4, Pr.s5, mkPr, markN, marksI_len] at y0 y1 y2 y3 y4 y5 o1 o2 o4 o5
      simp only [sizN] at HEND hsz
      have C1 := hide (heldIntS_any a1 l1.length c1 (K + 1) w.heap.size w o1.rd (by omega) (by omega))
      have C2 := hide (heldIntS_any a2 l2.length c2 (K + 1 + l1.length) w.heap.size w o2.rd (by omega) (by omega))
      have C4 := hide (heldIntS_any a4 l4.length c4 (K + 1 + l1.length + l2.length + 1) w.heap.size w o4.rd (by omega) (by omega))
      have C5 := hide (heldIntS_any a5 l5.length c5 (K + 1 + l1.length + l2.length + 1 + l4.length) w.heap.size w o5.rd (by omega) (by omega))
      clear o1 o2 o4 o5 hx
      obtain ⟨K1, hK1⟩ : ∃ z, z = K + 1 := ⟨_, rfl⟩
      obtain ⟨K2, hK2⟩ : ∃ z, z = K + 1 + l1.length := ⟨_, rfl⟩
      obtain ⟨K3, hK3⟩ : ∃ z, z = K + 1 + l1.length + l2.length := ⟨_, rfl⟩
      obtain ⟨K4, hK4⟩ : ∃ z, z = K + 1 + l1.length + l2.length + 1 := ⟨_, rfl⟩
      obtain ⟨K5, hK5⟩ : ∃ z, z = K + 1 + l1.length + l2.length + 1 + l4.length := ⟨_, rfl⟩
      obtain ⟨K6, hK6⟩ : ∃ z, z = K + 1 + l1.length + l2.length + 1 + l4.length + l5.length := ⟨_, rfl⟩
      rw [← hK6, ← hK5] at C5
      rw [← hK5, ← hK4] at C4
      rw [← hK3, ← hK2] at C2
      rw [← hK2, ← hK1] at C1
      rw [← hK3] at y3
      have HQ : Hid (K1 = K + 1 ∧ K4 = K3 + 1 ∧ k + sizL ((pts ps).take (j + 1)) = K6 ∧ (K1 : Int) = (K : Int) + 1 ∧ (K4 : Int) = (K3 : Int) + 1) := ⟨hK1, by omega, by rw [HEND.out]; omega, by omega, by omega⟩
      have e0 : (decide (K % 3 = 0)) = ((K : Int) % 3 == 0) := by rw [Bool.eq_iff_iff]; simp; omega
      have e3 : (decide (K3 % 3 = 0)) = ((K3 : Int) % 3 == 0) := by rw [Bool.eq_iff_iff]; simp; omega
      rw [e0] at y0
      rw [e3] at y3
      have hb0 : 0 ≤ (K : Int) ∧ (K : Int) ≤ 600000000 := by omega
      have hb2 : 0 ≤ (K2 : Int) ∧ (K2 : Int) ≤ 900000000 := by omega
      have hb3 : 0 ≤ (K3 : Int) ∧ (K3 : Int) ≤ 900000000 := by omega
      have hb5 : 0 ≤ (K5 : Int) ∧ (K5 : Int) ≤ 900000000 := by omega
      have hb6 : 0 ≤ (K6 : Int) ∧ (K6 : Int) ≤ 900000000 := by omega
      rw [HQ.out.2.2.2.1] at C1
      rw [HQ.out.2.2.2.2] at C4
      have hq0 : ∀ q : Bool, (q != q) = false := fun q => by simp
      have hn2 : ¬ (K2 : Int) < 0 := by omega
      have hn3 : ¬ (K3 : Int) < 0 := by omega
      have hn5 : ¬ (K5 : Int) < 0 := by omega
      have hn6 : ¬ (K6 : Int) < 0 := by omega
      clear e0 e3 hK1 hK2 hK3 hK4 hK5 hK6 HEND hsz
      subst hA
      have hj0 : (0 : Int) ≤ (j : Int) := Int.natCast_nonneg _
      have hj1 : (j : Int) < (n : Int) := by omega
      generalize hr0 : ((K : Int) % 3 == 0) = r0 at *
      generalize hr3 : ((K3 : Int) % 3 == 0) = r3 at *
      go_wp2_with fail
      refine C1.out.mono ?_
      rintro e w' ⟨rfl, rfl⟩
      go_wp2_with fail
      refine C2.out.mono ?_
      rintro e w' ⟨rfl, rfl⟩
      go_wp2_with fail
      refine C4.out.mono ?_
      rintro e w' ⟨rfl, rfl⟩
      go_wp2_with fail
      refine C5.out.mono ?_
      rintro e w' ⟨rfl, rfl⟩
      go_wp2_with fail
      go_round
      case rel => exact ⟨j + 1, by omega, by rw [HQ.out.2.2.1], by go_num⟩
      case measure => simp [intOf]; omega
    · obtain rfl : j = n := by omega
      rw [sizL_all ps (by omega)]
      go_wp2
      go_ret
      exact ⟨rfl, rfl⟩
end Go.Proofs.YtocllmaikngoaaaGreatDoor

/-
  What the laws' walks over points share.
-/


namespace Go.Proofs.YtocllmaikngoaaaGreatDoor
open Go.RowKit
set_option linter.unusedVariables false
theorem sizQ_le {Z : RQ} (h : QFit Z) : sizQ Z ≤ 2097152 := by have := h.1; have := h.2.1; unfold sizQ; omega
theorem sizP_le {P : PQ} (h : PFit P) : sizP P ≤ 4194304 := by have := sizQ_le h.1; have := sizQ_le h.2; unfold sizP; omega
end Go.Proofs.YtocllmaikngoaaaGreatDoor
