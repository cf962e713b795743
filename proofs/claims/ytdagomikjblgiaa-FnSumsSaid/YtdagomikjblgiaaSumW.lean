/-
  The law of sums of polygons: its walk.
-/
import Derived.Test.YtdagomikjblgiaaHulW
import Derived.Test.YtdagomikjblgiaaSP
import Derived.Test.YtdagomikjblgiaaSumI
namespace Go.Proofs.Ytdagomikjblgiaa
open Go.RowKit
set_option linter.unusedVariables false
theorem small_add {u v : V2} (h : smallV u) (k : smallV v) : vecV (addV u v) = true := by
  obtain ⟨h1, h2⟩ := h
  obtain ⟨k1, k2⟩ := k
  unfold addV vecV vecB
  simp
  omega
/-- what the law asks of the sum of two of its polygons -/
theorem two_sum {D E : List V2} (hD : polyP D) (hE : polyP E) (hDD : hullV D = D) (hEE : hullV E = E) (h5 : D.length ≤ 5) (h5' : E.length ≤ 5) (hd : ∀ v ∈ D, smallV v) (he : ∀ v ∈ E, smallV v) :
    polyB (hullV (sumV D E)) = true ∧ sumL D E = hullV (sumV D E) ∧ sumL E D = hullV (sumV D E) ∧ (∀ p ∈ D, ∀ q ∈ E, 0 ≤ contB (hullV (sumV D E)) (addV p q)) ∧ areaB D + areaB E ≤ areaB (hullV (sumV D E)) := by
  have hv : allV (sumV D E) = true := List.all_eq_true.2 fun x hx => by
    obtain ⟨p, hp, q, hq, rfl⟩ := sumV_mem.1 hx
    exact small_add (hd p hp) (he q hq)
  have hl : (sumV D E).length ≤ 64 := by
    rw [sumV_len]
    exact Nat.le_trans (Nat.mul_le_mul h5 h5') (by omega)
  have hP := sum_poly hD hE (by omega) hv
  have hB := polyB_iff.2 hP
  have bD := polyB_iff.2 hD
  have bE := polyB_iff.2 hE
  obtain ⟨h2, h3⟩ := sum_three hD hE hl hv
  refine ⟨hB, sumL_is bD bE hB, ?_, fun p hp q hq => (contB_nn hP _).2 fun i hi => (hull_edge hl hv h2 hi).1 _ (sumV_of hp hq), ?_⟩
  · rw [sumL_is bE bD (by rw [← hullV_sw]; exact hB), ← hullV_sw]
  · have := sum_area hD hE hDD hEE hl hv
    unfold areaB
    rw [if_pos bD, if_pos bE, if_pos hB]
    exact this
set_option maxRecDepth 100000 in
set_option maxHeartbeats 4000000 in
theorem FnSums_walk (w : World) (a0 : Option Addr) (len0 cap0 : Nat) (zs : List Int) (f0 : IsRow .u8 w a0 len0 cap0 zs) :
    Calls Try.prog 10 #[.slice a0 len0 cap0] w fun e w' => e = .returned (.bool true) ∧ Below w.heap.size w w' := by
  obtain ⟨F, hL, hM⟩ := f0.bytesF
  clear f0
  generalize zs.take len0 = bs at F hL
  subst hL
  by_cases c0 : 1048576 < bs.length
  · unfold maxLen at hM
    clear F
    go_enter Try.func10, Try.ntmps10
    go_wp2_with fail
    go_ret
    exact ⟨rfl, Below.refl _ _⟩
  obtain ⟨D, hD⟩ : ∃ D, D = drawF bs 8 (skipF bs (newS bs) (7 * 0)) := ⟨_, rfl⟩
  obtain ⟨E, hE⟩ : ∃ E, E = drawF bs 8 (skipF bs (newS bs) (7 * 1)) := ⟨_, rfl⟩
  obtain ⟨d1, d2, d3⟩ := drawF_small bs 8 (skipF bs (newS bs) (7 * 0))
  obtain ⟨e1, e2, e3⟩ := drawF_small bs 8 (skipF bs (newS bs) (7 * 1))
  obtain ⟨d4, d5⟩ := drawF_five bs 8 (skipF bs (newS bs) (7 * 0))
  obtain ⟨e4, e5⟩ := drawF_five bs 8 (skipF bs (newS bs) (7 * 1))
  have HM0 := hide (fun (W : World) (hb : Below w.heap.size w W) => show Calls Try.prog 29 #[.slice a0 bs.length cap0, .int .i64 0] W _ from MakePolygon_f cap0 w.heap.size a0 bs 0 (by omega) W (by omega) (F.below hb) hb.size)
  have HM1 := hide (fun (W : World) (hb : Below w.heap.size w W) => show Calls Try.prog 29 #[.slice a0 bs.length cap0, .int .i64 1] W _ from MakePolygon_f cap0 w.heap.size a0 bs 1 (by omega) W (by omega) (F.below hb) hb.size)
  rw [← hD] at HM0 d1 d2 d3 d4 d5
  rw [← hE] at HM1 e1 e2 e3 e4 e5
  obtain ⟨t1, t2, t3, t4, t5⟩ := two_sum d3 e3 d5 e5 d4 e4 d1 e1
  have hHl : (hullV (sumV D E)).length ≤ 1048576 := hullV_len _
  have hHw := hullV_wf (wfV_sum d3 e3)
  have HDW := hide (small_wf d1)
  have HEW := hide (small_wf e1)
  have HSM := hide (fun k (hk : k < D.length) => d1 _ (List.getElem_mem hk))
  have HSE := hide (fun k (hk : k < E.length) => e1 _ (List.getElem_mem hk))
  have HA1 := hide (And.intro (polyB_iff.2 d3) (polyB_iff.2 e3))
  have HAR := hide (And.intro (fanN_small (l := D) d3 D.length (Nat.le_refl _)) (fanN_small (l := E) e3 E.length (Nat.le_refl _)))
  have hDe : areaB D = fanN D D.length := by unfold areaB; rw [if_pos (polyB_iff.2 d3), fanN_all]; intro e; have := d3.1; rw [e] at this; simp at this
  have hEe : areaB E = fanN E E.length := by unfold areaB; rw [if_pos (polyB_iff.2 e3), fanN_all]; intro e; have := e3.1; rw [e] at this; simp at this
  have hDb : -8000000 * 5 ≤ areaB D ∧ areaB D ≤ 8000000 * 5 := by rw [hDe]; have := HAR.out.1; omega
  have hEb : -8000000 * 5 ≤ areaB E ∧ areaB E ≤ 8000000 * 5 := by rw [hEe]; have := HAR.out.2; omega
  have HT2 := hide t2
  have HT3 := hide t3
  have HIN := hide t4
  clear hD hE d1 d2 d3 d5 e1 e2 e3 e5 t2 t3 t4 F hDe hEe HAR HA1
  obtain ⟨H, hH⟩ : ∃ H, H = hullV (sumV D E) := ⟨_, rfl⟩
  rw [← hH] at t1 t5 hHl hHw HIN HT2 HT3
  clear hH
  have HDA := hide (fun (W : World) (A : Option Addr) (c : Nat) (R : RdV W W.heap.size A D.length D) => impl_DoubleArea W W.heap.size (Nat.le_refl _) A D.length c D R)
  have HEA := hide (fun (W : World) (A : Option Addr) (c : Nat) (R : RdV W W.heap.size A E.length E) => impl_DoubleArea W W.heap.size (Nat.le_refl _) A E.length c E R)
  have HHA := hide (fun (W : World) (A : Option Addr) (c : Nat) (R : RdV W W.heap.size A H.length H) => impl_DoubleArea W W.heap.size (Nat.le_refl _) A H.length c H R)
  generalize areaB D = ad at *
  generalize areaB E = ae at *
  generalize areaB H = ah at *
  go_enter Try.func10, Try.ntmps10
  go_wp2_with fail
  refine (HM0.out w (Below.refl _ _)).mono ?_
  rintro e w1 ⟨v1, rfl, o1, hb1⟩
  go_wp2_with fail
  refine (HM1.out w1 hb1).mono ?_
  rintro e w2 ⟨v2, rfl, o2, hb2⟩
  have o1 := o1.below hb2 (Nat.le_refl _)
  have hs1 := hb1.size
  have hT2 := below_then hb1 hb2
  have hs2 := hT2.size
  have hs12 := hb2.size
  obtain ⟨A1, c1, rfl⟩ := o1.form
  obtain ⟨A2, c2, rfl⟩ := o2.form
  have R1 := o1.rdV (by omega) HDW.out
  have R2 := o2.rdV (by omega) HEW.out
  have HS1 := hide (impl_SumPolygons w2 w2.heap.size (Nat.le_refl _) A1 D.length c1 D R1 A2 E.length c2 E R2)
  rw [HT2.out] at HS1
  clear hb1 hb2 o1 o2
  go_wp2_with fail
  refine HS1.out.mono ?_
  rintro e w3 ⟨v3, rfl, o3, hb3⟩
  obtain ⟨A3, c3, rfl⟩ := o3.form
  have hcap := o3.cap
  have RH := o3.rdV hHl hHw
  have R1 := R1.up hb3
  have R2 := R2.up hb3
  have hT3 := below_then hT2 hb3
  have HI := hide (impl_IsPolygon w3 w3.heap.size (Nat.le_refl _) A3 H.length c3 H RH)
  rw [t1] at HI
  have hs3 := hT3.size
  clear HS1 o3 hb3 hT2
  go_wp2_with fail
  refine HI.out.mono ?_
  rintro e w4 ⟨rfl, hb4⟩
  have R1 := R1.up hb4
  have R2 := R2.up hb4
  have RH := RH.up hb4
  have hT4 := below_then hT3 hb4
  have HS2 := hide (impl_SumPolygons w4 w4.heap.size (Nat.le_refl _) A2 E.length c2 E R2 A1 D.length c1 D R1)
  rw [HT3.out] at HS2
  clear HI hb4 hT3
  go_wp2_with fail
  refine HS2.out.mono ?_
  rintro e w5 ⟨v5, rfl, o5, hb5⟩
  obtain ⟨A5, c5, rfl⟩ := o5.form
  have R1 := R1.up hb5
  have R2 := R2.up hb5
  have RH := RH.up hb5
  have hT5 := below_then hT4 hb5
  have HSP := hide (impl_SamePolygon w5 w5.heap.size (Nat.le_refl _) A3 H.length c3 H RH A5 H.length c5 H (o5.rdV hHl hHw) hcap o5.cap)
  rw [cycB_iff.2 (cycP_refl H)] at HSP
  clear HS2 o5 hb5 hT4
  go_wp2_with fail
  refine HSP.out.mono ?_
  rintro e w6 ⟨rfl, hb6⟩
  have R1 := R1.up hb6
  have R2 := R2.up hb6
  have RH := RH.up hb6
  have hT6 := below_then hT5 hb6
  have hs6 := hT6.size
  clear HSP hb6 hT5
  go_wp2_with fail
  go_loopw [33] (fun i wr => ∃ k : Nat, k ≤ D.length ∧ i = .int .i64 k ∧ Below w6.heap.size w6 wr) (fun i _ => D.length - (intOf i).toNat)
  case atStart => exact ⟨0, Nat.zero_le _, rfl, Below.refl _ _⟩
  case round =>
    obtain ⟨k, hk, rfl, hbel⟩ := hrel
    have hbs := hbel.size
    by_cases hlt : k < D.length
    · obtain ⟨adr, hA, hb1, hc1, hc2⟩ := (R1.2.1.below hbel).vec (k := k) hlt
      have hsm := HSM.out k hlt
      have HIN2 := hide (fun q (hq : q < E.length) => HIN.out D[k] (List.getElem_mem hlt) E[q] (List.getElem_mem hq))
      have hsv := vecB_bounds hsm.vec
      have HADD : Hid (∀ q (hq : q < E.length), vecB (D[k].1 + E[q].1) (D[k].2 + E[q].2) = true) := fun q hq => small_add hsm (HSE.out q hq)
      have HIN3 : Hid (∀ q (hq : q < E.length), 0 ≤ contB H (D[k].1 + E[q].1, D[k].2 + E[q].2)) := fun q hq => HIN2.out q hq
      clear hsm HIN2
      generalize D[k].1 = x0 at *
      generalize D[k].2 = y0 at *
      obtain ⟨wo, ewo⟩ : ∃ x, x = wr := ⟨_, rfl⟩
      subst ewo
      obtain ⟨W0, hW0⟩ : ∃ W0, W0 = wo.alloc (.cells #[.int .i64 x0, .int .i64 y0] 32) := ⟨_, rfl⟩
      have ka : Box W0 wo.heap.size 32 #[.int .i64 x0, .int .i64 y0] := by rw [hW0]; exact Box.last _ _ _ rfl
      have hT : Below wo.heap.size wo W0 := by rw [hW0]; exact below_new _ _
      subst hA
      go_wp2_with fail
      rw [← hW0]
      clear hW0 hc1 hc2
      have hT0 := hbel.trans (hT.mono hbs)
      have hs0 := hT0.size
      clear hT hbel
      go_loopw [39] (fun j wi => ∃ q : Nat, q ≤ E.length ∧ j = .int .i64 q ∧ Below W0.heap.size W0 wi) (fun j _ => E.length - (intOf j).toNat)
      case atStart => exact ⟨0, Nat.zero_le _, rfl, Below.refl _ _⟩
      case round =>
        obtain ⟨q, hq, rfl, hbi⟩ := hrel
        have hT6i := hT0.trans (hbi.mono hs0)
        have hbsi := hT6i.size
        by_cases hqt : q < E.length
        · obtain ⟨aer, hE, hb5, hc5, hc6⟩ := (R2.2.1.below hT6i).vec (k := q) hqt
          have hqv := vecB_bounds (HSE.out q hqt).vec
          have hvv := HADD.out q hqt
          have hin := HIN3.out q hqt
          have HP := hide (fun (W : World) => impl_PointOf W (x0 + E[q].1) (y0 + E[q].2) (WalkArith.wf_i64 ⟨by omega, by omega⟩) (WalkArith.wf_i64 ⟨by omega, by omega⟩))
          have HC := hide (fun (W : World) (hb : Below w6.heap.size w6 W) {p0 p1 p2 p3 p4 p5 : Value} (hP : atPt W W.heap.size p0 p1 p2 p3 p4 p5 (x0 + E[q].1) (y0 + E[q].2)) => impl_ContainsAt W W.heap.size (Nat.le_refl _) A3 H.length c3 H ((RH.below hb).wider hb.size) hP)
          generalize contB H (x0 + E[q].1, y0 + E[q].2) = cv at *
          generalize E[q].1 = x1 at *
          generalize E[q].2 = y1 at *
          obtain ⟨W1, hW1⟩ : ∃ W1, W1 = wr.alloc (.cells #[.int .i64 x1, .int .i64 y1] 32) := ⟨_, rfl⟩
          have kb : Box W1 wr.heap.size 32 #[.int .i64 x1, .int .i64 y1] := by rw [hW1]; exact Box.last _ _ _ rfl
          have hT1 : Below wr.heap.size wr W1 := by rw [hW1]; exact below_new _ _
          have hbj := below_then hbi hT1
          have ka1 := ka.below hbj ka.lt
          cases hE
          go_upto_region 14 with fail
          rw [← hW1]
          clear hW1 hc5 hc6
          have hT6j := hT6i.trans (hT1.mono hbsi)
          obtain ⟨yb0, yb1⟩ := kb.cells2
          obtain ⟨ya0, ya1⟩ := ka1.cells2
          clear kb ka1 hbi hT1 hT6i
          go_wp2_with fail
          refine (HP.out _).mono ?_
          rintro e w7 ⟨v0, v1, v2, v3, v4, v5, rfl, op, hb7⟩
          have hT7 := hT6j.trans (hb7.mono hT6j.size)
          have hbk := below_then hbj hb7
          have HX := hide (HC.out w7 hT7 (atPt_of op hvv))
          clear ya0 ya1 yb0 yb1 op hb7 HP HC hT6j hbj
          go_wp2_with fail
          refine HX.out.mono ?_
          rintro e w8 ⟨rfl, hb8⟩
          have hbm := below_then hbk hb8
          have hng : ¬ cv < 0 := by omega
          clear HX hb8 hT7 hbk
          go_wp2_with fail
          go_roundw
          case rel => exact ⟨q + 1, by omega, by go_num, hbm⟩
          case measure => simp [intOf]; omega
        · obtain rfl : q = E.length := by omega
          clear hbi ka
          go_wp2_with fail
          go_roundw
          case rel => exact ⟨k + 1, by omega, by go_num, hT6i⟩
          case measure => simp [intOf]; omega
    · obtain rfl : k = D.length := by omega
      have R1 := R1.up hbel
      have R2 := R2.up hbel
      have RH := RH.up hbel
      have hTr := below_then hT6 hbel
      clear hbel HIN HSM HSE HM0 HM1
      go_wp2_with fail
      refine (HHA.out wr A3 c3 RH).mono ?_
      rintro e w7 ⟨rfl, hb7⟩
      have R1 := R1.up hb7
      have R2 := R2.up hb7
      have hT7 := below_then hTr hb7
      clear hb7 hTr
      go_wp2_with fail
      refine (HDA.out w7 A1 c1 R1).mono ?_
      rintro e w8 ⟨rfl, hb8⟩
      have R2 := R2.up hb8
      have hT8 := below_then hT7 hb8
      clear hb8 hT7
      go_wp2_with fail
      refine (HEA.out w8 A2 c2 R2).mono ?_
      rintro e w9 ⟨rfl, hb9⟩
      have hT9 := below_then hT8 hb9
      have hge : ad + ae ≤ ah := t5
      go_wp2_with fail
      go_ret
      exact ⟨rfl, hT9⟩
end Go.Proofs.Ytdagomikjblgiaa
