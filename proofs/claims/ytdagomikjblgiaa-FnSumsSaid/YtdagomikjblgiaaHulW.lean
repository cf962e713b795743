/-
  The law of hulls: its walk.
-/
import Derived.Test.YtdagomikjblgiaaPolD2
import Derived.Test.YtdagomikjblgiaaPolG
import Derived.Test.YtdagomikjblgiaaVecA
import Derived.Test.YtdagomikjblgiaaHulI2
import Derived.Test.YtdagomikjblgiaaPIX
namespace Go.Proofs.Ytdagomikjblgiaa
open Go.RowKit
set_option linter.unusedVariables false
theorem cycP_refl (l : List V2) : cycP l l := ⟨rfl, by
  by_cases h : l.length = 0
  · exact .inl h
  · exact .inr ⟨0, by omega, by simp [rotL]⟩⟩
theorem small_wf {l : List V2} (h : ∀ v ∈ l, smallV v) : wfV l := fun v hv => (h v hv).wf
/-- PointOf a vector, then where it lies -/
theorem atPt_of {w w' : World} {v0 v1 v2 v3 v4 v5 : Value} {x y : Int} (o : POwn w' w.heap.size w'.heap.size 3 v0 v1 v2 v3 v4 v5 (vecP x y)) (h : vecB x y = true) : atPt w' w'.heap.size v0 v1 v2 v3 v4 v5 x y := ⟨o.in_ (vecP_fit x y) (Nat.le_refl _), h⟩
set_option maxRecDepth 100000 in
set_option maxHeartbeats 4000000 in
theorem FnHull_walk (w : World) (a0 : Option Addr) (len0 cap0 : Nat) (zs : List Int) (f0 : IsRow .u8 w a0 len0 cap0 zs) :
    Calls Try.prog 9 #[.slice a0 len0 cap0] w fun e w' => e = .returned (.bool true) ∧ Below w.heap.size w w' := by
  obtain ⟨F, hL, hM⟩ := f0.bytesF
  clear f0
  generalize zs.take len0 = bs at F hL
  subst hL
  by_cases c0 : 1048576 < bs.length
  · unfold maxLen at hM
    clear F
    go_enter Try.func9, Try.ntmps9
    go_wp2_with fail
    go_ret
    exact ⟨rfl, Below.refl _ _⟩
  obtain ⟨D, hD⟩ : ∃ D, D = drawF bs 8 (skipF bs (newS bs) (7 * 0)) := ⟨_, rfl⟩
  obtain ⟨E, hE⟩ : ∃ E, E = drawF bs 8 (skipF bs (newS bs) (7 * 1)) := ⟨_, rfl⟩
  obtain ⟨d1, d2, d3⟩ := drawF_small bs 8 (skipF bs (newS bs) (7 * 0))
  obtain ⟨e1, e2, e3⟩ := drawF_small bs 8 (skipF bs (newS bs) (7 * 1))
  obtain ⟨d4, d5⟩ := drawF_five bs 8 (skipF bs (newS bs) (7 * 0))
  obtain ⟨e4, e5⟩ := drawF_five bs 8 (skipF bs (newS bs) (7 * 1))
  have HM0 := hide (fun (W : World) (hb : Below w.heap.size w W) => show Calls Try.prog 29 #[.slice a0 bs.length cap0, .int .i64 0] W _ from MakePolygon_f cap0 w.heap.size a0 bs 0 (by omega) W (by omega) (F.below hb) hb.size)
  have HM1 := hide (fun (W : World) (hb : Below w.heap.size w W) => show Calls Try.prog 29 #[.slice a0 bs.length cap0, .int .i64 1] W _ from MakePolygon_f cap0 w.heap.size a0 bs 1 (by omega) W (by omega) (F.below hb) hb.size)
  rw [← hD] at HM0 d1 d2 d3 d4 d5
  rw [← hE] at HM1 e1 e2 e3 e4 e5
  have T := two_hull d3 d5 d4 e4 d1 e1
  have hl10 : (D ++ E).length ≤ 10 := by rw [List.length_append]; omega
  have hall : ∀ v ∈ D ++ E, smallV v := fun v h => (List.mem_append.1 h).elim (d1 v) (e1 v)
  have hwfL := small_wf hall
  have hflA := fl_append D E
  have hlen : (D ++ E).length = D.length + E.length := List.length_append
  obtain ⟨L, hL⟩ : ∃ L, L = D ++ E := ⟨_, rfl⟩
  rw [← hL] at T hl10 hall hwfL hflA hlen
  obtain ⟨t1, t2, t3, t4, t5⟩ := T
  have hHl : (hullV L).length ≤ 1048576 := hullV_len L
  have hHw := hullV_wf hwfL
  have HIN := hide (fun v (hv : v ∈ L) => (contB_nn (polyB_iff.1 t1) v).2 (t5 v hv))
  have hmL : ∀ k (hk : k < L.length), smallV L[k] := fun k hk => hall _ (List.getElem_mem hk)
  have HSM := hide hmL
  have HDW := hide (small_wf d1)
  have HEW := hide (small_wf e1)
  have hDl := d4
  have HFL := hide hflA
  have HLE := hide hlen
  have HT2 := hide t2
  clear hD hE d1 d2 d3 d5 e1 e2 e3 e5 hall hflA hlen hL t5 hmL t2 F
  obtain ⟨H, hH⟩ : ∃ H, H = hullV L := ⟨_, rfl⟩
  have HH : Hid (H = hullV L) := hH
  rw [← hH] at t1 t3 t4 hHl hHw HIN
  clear hH
  go_enter Try.func9, Try.ntmps9
  go_wp2_with fail
  refine (HM0.out w (Below.refl _ _)).mono ?_
  rintro e w1 ⟨v1, rfl, o1, hb1⟩
  go_wp2_with fail
  refine (HM1.out w1 hb1).mono ?_
  rintro e w2 ⟨v2, rfl, o2, hb2⟩
  have o1 := o1.below hb2 (Nat.le_refl _)
  have hs1 := hb1.size
  have hT2 := below_then hb1 hb2
  have hs2 := hT2.size
  obtain ⟨A2, c2, rfl⟩ := o2.form
  have r2 := o2.rd
  have HF1 := hide (fl_len E)
  clear hb1 hb2 o2
  go_wp2_with (at_builtin; refine wpList_append_rdS Try.sliceVec rfl _ _ rfl w2 w.heap.size v1 D.length (fl D) o1.1 rfl _ A2 E.length c2 (fl E) rfl HF1.out r2 (fl_one _) (by unfold maxLen; omega) (by omega) (by omega) ?_; intro v3 w3 hown3 hb3)
  have o3 : OwnV w3 w.heap.size w3.heap.size 32 v3 L.length L := by
    rw [← HFL.out, ← HLE.out] at hown3
    exact OwnV.of_row hown3 (Nat.le_refl _)
  have hT3 := hT2.trans hb3
  obtain ⟨A3, c3, rfl⟩ := o3.form
  have RL := o3.rdV (by omega) hwfL
  have HHu := hide (impl_HullOf w3 w3.heap.size (Nat.le_refl _) A3 L.length c3 L RL)
  rw [← HH.out] at HHu
  clear hown3 hb3 hT2 o1 r2 o3 HFL HLE
  refine HHu.out.mono ?_
  rintro e w4 ⟨v4, rfl, o4, hb4⟩
  obtain ⟨A4, c4, rfl⟩ := o4.form
  have hcap := o4.cap
  have RH := o4.rdV hHl hHw
  have RL4 := RL.below hb4
  have h34 := hb4.size
  have hT4 := hT3.trans (hb4.mono hT3.size)
  obtain ⟨hLn, hxL, hl1, hwL⟩ := RL4
  clear HHu RL o4 hb4 hT3
  go_wp2_with fail
  go_loopw [19] (fun i wr => ∃ k : Nat, k ≤ L.length ∧ i = .int .i64 k ∧ Below w4.heap.size w4 wr) (fun i _ => L.length - (intOf i).toNat)
  case atStart => exact ⟨0, Nat.zero_le _, rfl, Below.refl _ _⟩
  case round =>
    obtain ⟨k, hk, rfl, hbel⟩ := hrel
    have hbs := hbel.size
    by_cases hlt : k < L.length
    · obtain ⟨ad, hA, hb1, hc1, hc2⟩ := (hxL.below (hbel.mono h34)).vec (k := k) hlt
      obtain ⟨f1, f2⟩ := wfV_at hwL hlt
      have hvv : vecB L[k].1 L[k].2 = true := (HSM.out k hlt).vec
      have hin := HIN.out L[k] (List.getElem_mem hlt)
      have HP := hide (fun (W : World) => impl_PointOf W L[k].1 L[k].2 f1 f2)
      have HC := hide (fun (W : World) (hb : Below w4.heap.size w4 W) {p0 p1 p2 p3 p4 p5 : Value} (hP : atPt W W.heap.size p0 p1 p2 p3 p4 p5 L[k].1 L[k].2) => impl_ContainsAt W W.heap.size (Nat.le_refl _) A4 H.length c4 H ((RH.below hb).wider hb.size) hP)
      have hin2 : 0 ≤ contB H (L[k].1, L[k].2) := hin
      generalize contB H (L[k].1, L[k].2) = cv at *
      clear hin f1 f2
      generalize L[k].1 = x0 at *
      generalize L[k].2 = y0 at *
      obtain ⟨W0, hW0⟩ : ∃ W0, W0 = wr.alloc (.cells #[.int .i64 x0, .int .i64 y0] 32) := ⟨_, rfl⟩
      have ka : Box W0 wr.heap.size 32 #[.int .i64 x0, .int .i64 y0] := by rw [hW0]; exact Box.last _ _ _ rfl
      have hT : Below wr.heap.size wr W0 := by rw [hW0]; exact below_new _ _
      subst hA
      go_upto_region 8 with fail
      rw [← hW0]
      clear hW0 hc1 hc2
      have hT0 := hbel.trans (hT.mono hbs)
      obtain ⟨ya0, ya1⟩ := ka.cells2
      clear ka hT hbel
      go_wp2_with fail
      refine (HP.out _).mono ?_
      rintro e w5 ⟨v0, v1, v2, v3, v4, v5, rfl, op, hb5⟩
      have hT5 := hT0.trans (hb5.mono hT0.size)
      have HX := hide (HC.out w5 hT5 (atPt_of op hvv))
      clear ya0 ya1 op hb5 HP HC
      go_wp2_with fail
      refine HX.out.mono ?_
      rintro e w6 ⟨rfl, hb6⟩
      have hT6 := hT5.trans (hb6.mono hT5.size)
      have hng : ¬ cv < 0 := by omega
      clear HX hb6 hT5 hT0
      go_wp2_with fail
      go_roundw
      case rel => exact ⟨k + 1, by omega, by go_num, hT6⟩
      case measure => simp [intOf]; omega
    · obtain rfl : k = L.length := by omega
      have HI := hide (fun (W : World) (hb : Below w4.heap.size w4 W) => impl_IsPolygon W W.heap.size (Nat.le_refl _) A4 H.length c4 H ((RH.below hb).wider hb.size))
      have HH2 := hide (fun (W : World) (hb : Below w4.heap.size w4 W) => impl_HullOf W W.heap.size (Nat.le_refl _) A4 H.length c4 H ((RH.below hb).wider hb.size))
      have HA := hide (fun (W : World) (hb : Below w4.heap.size w4 W) => impl_DoubleArea W W.heap.size (Nat.le_refl _) A4 H.length c4 H ((RH.below hb).wider hb.size))
      rw [t1] at HI
      have e2 : hullV H = H := by rw [HH.out]; exact HT2.out
      rw [e2] at HH2
      clear e2 hxL
      generalize areaB H = ah at *
      have hge : areaB D ≤ ah := t3
      have HDA := hide (fun (W : World) (A : Option Addr) (c : Nat) (R : RdV W W.heap.size A D.length D) => impl_DoubleArea W W.heap.size (Nat.le_refl _) A D.length c D R)
      generalize areaB D = ad at *
      clear t3 t1 HIN HSM
      go_wp2_with fail
      refine (HI.out wr hbel).mono ?_
      rintro e w5 ⟨rfl, hb5⟩
      have hT5 := hbel.trans (hb5.mono hbs)
      clear HI hb5 hbel
      go_wp2_with fail
      refine (HH2.out w5 hT5).mono ?_
      rintro e w6 ⟨v6, rfl, o6, hb6⟩
      obtain ⟨A6, c6, rfl⟩ := o6.form
      have hT6 := hT5.trans (hb6.mono hT5.size)
      have HS := hide (impl_SamePolygon w6 w6.heap.size (Nat.le_refl _) A6 H.length c6 H (o6.rdV hHl hHw) A4 H.length c4 H ((RH.below hT6).wider hT6.size) o6.cap hcap)
      rw [cycB_iff.2 (cycP_refl H)] at HS
      clear HH2 o6 hb6 hT5
      go_wp2_with fail
      refine HS.out.mono ?_
      rintro e w7 ⟨rfl, hb7⟩
      have hT7 := hT6.trans (hb7.mono hT6.size)
      clear HS hb7 hT6
      go_wp2_with fail
      refine (HA.out w7 hT7).mono ?_
      rintro e w8 ⟨rfl, hb8⟩
      have hT8 := hT7.trans (hb8.mono hT7.size)
      have hW8 := hT4.trans (hT8.mono hT4.size)
      clear hb8 hT7
      go_wp2_with fail
      refine (HM0.out w8 hW8).mono ?_
      rintro e w9 ⟨v9, rfl, o9, hb9⟩
      obtain ⟨A9, c9, rfl⟩ := o9.form
      have hT9 := hT8.trans (hb9.mono hT8.size)
      have R9 := o9.rdV (by omega) HDW.out
      clear o9 hb9 hW8 hT8
      go_wp2_with fail
      refine (HDA.out w9 _ _ R9).mono ?_
      rintro e w10 ⟨rfl, hb10⟩
      have hT10 := hT9.trans (hb10.mono hT9.size)
      clear hb10 R9 hT9
      go_wp2_with fail
      refine (HA.out w10 hT10).mono ?_
      rintro e w11 ⟨rfl, hb11⟩
      have hT11 := hT10.trans (hb11.mono hT10.size)
      go_wp2_with fail
      go_ret
      exact ⟨rfl, hT4.trans (hT11.mono hT4.size)⟩
end Go.Proofs.Ytdagomikjblgiaa
