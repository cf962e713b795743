/-
  The law of turns: its walk.
-/
import Derived.Test.YtafhhemojdblpaaDoorHedX
import Derived.Test.YtafhhemojdblpaaDoorHedI4
import Derived.Test.YtafhhemojdblpaaDoorHedI6
import Derived.Test.YtafhhemojdblpaaDoorPD
import Derived.Test.YtafhhemojdblpaaDoorPIX
import Derived.Test.YtafhhemojdblpaaDoorDA
namespace Go.Proofs.YtafhhemojdblpaaDoor
open Go.RowKit
set_option linter.unusedVariables false
theorem small_wfH {l : List V2} (h : ∀ v ∈ l, smallV v) : wfV l := fun v hv => (h v hv).wf
theorem cycP_reflH (l : List V2) : cycP l l := ⟨rfl, by
  by_cases h : l.length = 0
  · exact .inl h
  · exact .inr ⟨0, by omega, by simp [rotL]⟩⟩
set_option maxHeartbeats 400000 in
theorem MakeNum_k (n c B k : Nat) (A : Option Addr) (w : World) (hk : k ≤ 1000) (hn : n ≤ 1099511627776) (hb : Bytes w B A n) (hB : B ≤ w.heap.size) :
    Calls Tryd.prog 7 #[.slice A n c, .int .i64 k] w fun e w' => ∃ r : Int, e = .returned (.int .i64 r) ∧ 0 ≤ r ∧ r ≤ 65535 ∧ Below w.heap.size w w' := by
  go_enter Tryd.func7, Tryd.ntmps7
  go_wp2_with fail
  refine (l31New_any n c B k A w hn (by omega) hb hB).mono ?_
  rintro e w1 ⟨rfl, hc1, hb1, hs1⟩
  have HS := hide hs1
  clear hs1
  go_wp2_with fail
  refine (l01Byte_any w.heap.size n c A B w1 (by omega) hc1 (hb.below (hb1.mono hB)) hB).mono ?_
  rintro e w2 ⟨r1, rfl, h10, h11, hc2, ho1⟩
  have hb2 := hb1.trans (ho1.below (Nat.le_refl w.heap.size) (by have := HS.out; omega))
  go_wp2_with fail
  refine (l01Byte_any w.heap.size n c A B w2 (by omega) hc2 (hb.below (hb2.mono hB)) hB).mono ?_
  rintro e w3 ⟨r2, rfl, h20, h21, hc3, ho2⟩
  have hb3 := hb2.trans (ho2.below (Nat.le_refl w.heap.size) hb2.size)
  go_wp2_with fail
  go_ret
  exact ⟨_, rfl, by omega, by omega, hb3⟩
set_option maxRecDepth 100000 in
set_option maxHeartbeats 1600000 in
theorem FnTurns_walk (w : World) (a0 : Option Addr) (len0 cap0 : Nat) (z0 : List Int) (f0 : IsRow .u8 w a0 len0 cap0 z0) (hQ : QTab w) :
    Calls Tryd.prog 3 #[.slice a0 len0 cap0] w fun e w' => e = .returned (.bool true) ∧ Below w.heap.size w w' := by
  obtain ⟨F, hL, hM⟩ := f0.bytesF
  obtain ⟨FB, -⟩ := f0.bytes
  clear f0
  generalize z0.take len0 = bs at F hL
  subst hL
  by_cases c0 : 1048576 < bs.length
  · unfold maxLen at hM
    clear F FB hQ
    go_enter Tryd.func3, Tryd.ntmps3
    go_wp2_with fail
    go_ret
    exact ⟨rfl, Below.refl _ _⟩
  obtain ⟨D, hD⟩ : ∃ D, D = drawF bs 8 (skipF bs (newS bs) (7 * 0)) := ⟨_, rfl⟩
  obtain ⟨d1, d2, d3⟩ := drawF_small bs 8 (skipF bs (newS bs) (7 * 0))
  have HM0 := hide (fun (W : World) (hb : Below w.heap.size w W) => show Calls Tryd.prog 6 #[.slice a0 bs.length cap0, .int .i64 0] W _ from MakePolygon_f cap0 w.heap.size a0 bs 0 (by omega) W (by omega) (F.below hb) hb.size)
  have HM1 := hide (fun (W : World) (hb : Below w.heap.size w W) => show Calls Tryd.prog 7 #[.slice a0 bs.length cap0, .int .i64 1] W _ from MakeNum_k bs.length cap0 w.heap.size 1 a0 W (by omega) (by omega) (FB.below hb) hb.size)
  have HM2 := hide (fun (W : World) (hb : Below w.heap.size w W) => show Calls Tryd.prog 7 #[.slice a0 bs.length cap0, .int .i64 2] W _ from MakeNum_k bs.length cap0 w.heap.size 2 a0 W (by omega) (by omega) (FB.below hb) hb.size)
  have HM3 := hide (fun (W : World) (hb : Below w.heap.size w W) => show Calls Tryd.prog 7 #[.slice a0 bs.length cap0, .int .i64 3] W _ from MakeNum_k bs.length cap0 w.heap.size 3 a0 W (by omega) (by omega) (FB.below hb) hb.size)
  rw [← hD] at HM0 d1 d2 d3
  have HOT := hide (one_turn d3)
  have hDW := small_wfH d1
  have HQ := hide (fun (W : World) (hb : Below w.heap.size w W) => hQ.below hb (Nat.le_refl _))
  clear hD d1 d3 F FB hQ
  go_enter Tryd.func3, Tryd.ntmps3
  go_wp2_with fail
  refine (HM0.out w (Below.refl _ _)).mono ?_
  rintro e w1 ⟨v1, rfl, o1, hb1⟩
  obtain ⟨A1, c1, rfl⟩ := o1.form
  have cap1 := hide o1.cap
  have R1 := o1.rdV (by omega) hDW
  have hT1 := hb1
  clear o1 HM0 hb1
  go_wp2_with fail
  refine (HM1.out w1 hT1).mono ?_
  rintro e w2 ⟨r1, rfl, h10, h11, hb2⟩
  have R1 := R1.up hb2
  have hT2 := below_then hT1 hb2
  obtain ⟨k, hk⟩ : ∃ k, k = r1 % 9 := ⟨_, rfl⟩
  have hk0 : 0 ≤ k ∧ k ≤ 8 := by omega
  clear HM1 hb2 hT1
  go_wp2_with fail
  refine (HM2.out w2 hT2).mono ?_
  rintro e w3 ⟨r2, rfl, h20, h21, hb3⟩
  have R1 := R1.up hb3
  have hT3 := below_then hT2 hb3
  obtain ⟨g, hg⟩ : ∃ g, g = r2 % 4 := ⟨_, rfl⟩
  have hg0 : 0 ≤ g ∧ g ≤ 3 := by omega
  clear HM2 hb3 hT2
  go_wp2_with fail
  refine (HM3.out w3 hT3).mono ?_
  rintro e w4 ⟨r3, rfl, h30, h31, hb4⟩
  have R1 := R1.up hb4
  have hT4 := below_then hT3 hb4
  obtain ⟨h, hh⟩ : ∃ h, h = r3 % 4 := ⟨_, rfl⟩
  have hh0 : 0 ≤ h ∧ h ≤ 3 := by omega
  clear HM3 hb4 hT3
  go_upto_region 8 with fail
  rw [← hk, ← hg, ← hh]
  obtain ⟨ht1, ht2, ht3⟩ := stps_btw hg0 hh0
  have HTB := hide (fun (W : World) (hb : Below w.heap.size w W) => impl_TurnsBetween W W.heap.size (Nat.le_refl _) g (WalkArith.wf_i64 ⟨by omega, by omega⟩) h (WalkArith.wf_i64 ⟨by omega, by omega⟩) (HQ.out W hb))
  have HSN := hide (fun (j : Nat) (hj : j < (btw g h).length) => stps_snoc (g := g) hj)
  have HSR := hide (fun j => stps_range (g := g) (by omega) ((btw g h).take j))
  obtain ⟨o1, o2, o3, o4, o5, o6⟩ := HOT.out k
  clear HOT
  have HAV := hide o1
  have HPB := hide o2
  have HTL := hide o3
  have HAR := hide o4
  have HRC := hide o5
  have HML : Hid ((turnL D k).length ≤ 1048576) := by show _ ≤ _; omega
  have hMW : wfV (turnL D k) := turnL_wf D k
  clear hk hg hh h10 h11 h20 h21 h30 h31 o1 o2 o3 o4 o5 o6
  generalize hTT : btw g h = T at *
  have HTT := hide hTT
  clear hTT
  generalize hMM : turnL D k = M at *
  have HMM := hide hMM
  clear hMM
  go_wp2_with fail
  refine (HTB.out w4 hT4).mono ?_
  rintro e w5 ⟨v5, rfl, q5, hb5⟩
  have o5 := Own.of q5
  obtain ⟨A5, c5, rfl⟩ := o5.form
  have X5 := o5.rd
  have R1 := R1.up hb5
  have hT5 := below_then hT4 hb5
  clear q5 o5 hb5 hT4
  go_wp2_with fail
  go_loopw [7, 30] (fun s i wr => ∃ j : Nat, j ≤ T.length ∧ s = .int .i64 (stps g (T.take j)) ∧ i = .int .i64 j ∧ w5 = wr) (fun _ i _ => T.length - (intOf i).toNat)
  case atStart => exact ⟨0, Nat.zero_le _, rfl, rfl, rfl⟩
  case round =>
    obtain ⟨j, hj, rfl, rfl, rfl⟩ := hrel
    by_cases hlt : j < T.length
    · obtain ⟨ad, hA, hb9, hc9⟩ := X5.int hlt
      have HN := hide (HSN.out j hlt)
      have hr := HSR.out j
      have ht := ht3 _ (List.getElem_mem hlt)
      have HNX := hide (fun W => impl_NextHeading W (stps g (T.take j)) T[j] (WalkArith.wf_i64 ⟨by omega, by omega⟩) (WalkArith.wf_i64 ⟨by omega, by omega⟩))
      rw [← HN.out] at HNX
      generalize stps g (T.take j) = s0 at *
      generalize hse : stps g (T.take (j + 1)) = s1 at *
      have HSE := hide hse
      clear hse
      generalize T[j] = t0 at *
      have h0 : 0 ≤ (j : Int) := Int.natCast_nonneg _
      have h1 : (j : Int) < (T.length : Int) := by omega
      subst hA
      go_wp2_with fail
      refine (HNX.out _).mono ?_
      rintro e w9 ⟨rfl, rfl⟩
      go_wp2_with fail
      go_roundw
      case rel => exact ⟨j + 1, by omega, by rw [HSE.out], by go_num, by trivial⟩
      case measure => simp [intOf]; omega
    · obtain rfl : j = T.length := by omega
      rw [List.take_length, ht1]
      have HTP := hide (fun (W : World) (hb : Below w.heap.size w W) (R : RdV W W.heap.size A1 D.length D) => impl_TurnPolygon W W.heap.size (Nat.le_refl _) A1 D.length c1 D R k (HQ.out W hb))
      rw [HMM.out] at HTP
      have hhh : (h == h) = true := by simp
      go_wp2_with fail
      refine (HTP.out w5 hT5 R1).mono ?_
      rintro e w6 ⟨v6, rfl, q6, hb6⟩
      obtain ⟨A6, c6, rfl⟩ := q6.form
      have R6 := q6.rdV HML.out hMW
      have R1 := R1.up hb6
      have hT6 := below_then hT5 hb6
      have HIP := hide (impl_IsPolygon w6 w6.heap.size (Nat.le_refl _) A6 M.length c6 M R6)
      rw [HPB.out] at HIP
      clear HTP q6 hb6
      go_wp2_with fail
      refine HIP.out.mono ?_
      rintro e w7 ⟨rfl, hb7⟩
      have R6 := R6.up hb7
      have R1 := R1.up hb7
      have hT7 := below_then hT6 hb7
      have HT2 := hide (impl_TurnPolygon w7 w7.heap.size (Nat.le_refl _) A6 M.length c6 M R6 (4 - k) (HQ.out w7 hT7))
      rw [HTL.out] at HT2
      clear HIP hb7 hT6
      go_wp2_with fail
      refine HT2.out.mono ?_
      rintro e w8 ⟨v8, rfl, q8, hb8⟩
      obtain ⟨A8, c8, rfl⟩ := q8.form
      have cap8 := hide q8.cap
      have R8 := q8.rdV (by omega) hDW
      have R6 := R6.up hb8
      have R1 := R1.up hb8
      have hT8 := below_then hT7 hb8
      have HSP := hide (impl_SamePolygon w8 w8.heap.size (Nat.le_refl _) A8 D.length c8 D R8 A1 D.length c1 D R1 cap8.out cap1.out)
      rw [cycB_iff.2 (cycP_reflH D)] at HSP
      clear HT2 hb8 hT7 R8 q8 cap8
      go_wp2_with fail
      refine HSP.out.mono ?_
      rintro e w9 ⟨rfl, hb9⟩
      have R6 := R6.up hb9
      have R1 := R1.up hb9
      have hT9 := below_then hT8 hb9
      have HA1 := hide (impl_DoubleArea w9 w9.heap.size (Nat.le_refl _) A6 M.length c6 M R6)
      rw [HAR.out] at HA1
      have HA2 := hide (fun (W : World) (R : RdV W W.heap.size A1 D.length D) => impl_DoubleArea W W.heap.size (Nat.le_refl _) A1 _ c1 _ R)
      have haa : (areaB D == areaB D) = true := by simp
      generalize areaB D = ad at *
      clear HSP hb9 hT8
      go_wp2_with fail
      refine HA1.out.mono ?_
      rintro e w10 ⟨rfl, hb10⟩
      have R6 := R6.up hb10
      have R1 := R1.up hb10
      have hT10 := below_then hT9 hb10
      clear HA1 hb10 hT9
      go_wp2_with fail
      refine (HA2.out w10 R1).mono ?_
      rintro e w11 ⟨rfl, hb11⟩
      have R6 := R6.up hb11
      have R1 := R1.up hb11
      have hT11 := below_then hT10 hb11
      have HR1 := hide (impl_ReachSquare w11 w11.heap.size (Nat.le_refl _) A6 M.length c6 M R6)
      rw [HRC.out] at HR1
      have HR2 := hide (fun (W : World) (R : RdV W W.heap.size A1 D.length D) => impl_ReachSquare W W.heap.size (Nat.le_refl _) A1 _ c1 _ R)
      have hrr : (rchB D == rchB D) = true := by simp
      generalize rchB D = rd at *
      clear HA2 hb11 hT10
      go_wp2_with fail
      refine HR1.out.mono ?_
      rintro e w12 ⟨rfl, hb12⟩
      have R1 := R1.up hb12
      have hT12 := below_then hT11 hb12
      clear HR1 hb12 hT11 R6
      go_wp2_with fail
      refine (HR2.out w12 R1).mono ?_
      rintro e w13 ⟨rfl, hb13⟩
      have hT13 := below_then hT12 hb13
      clear HR2 hb13 hT12 R1
      have hle : ((T.length : Int) ≤ 2) := by omega
      go_wp2_with fail
      refine (HTB.out w13 hT13).mono ?_
      rintro e w14 ⟨v14, rfl, q14, hb14⟩
      have o14 := Own.of q14
      obtain ⟨A14, c14, rfl⟩ := o14.form
      clear q14 o14
      go_wp2_with fail
      go_ret
      exact ⟨rfl, below_then hT13 hb14⟩
end Go.Proofs.YtafhhemojdblpaaDoor
