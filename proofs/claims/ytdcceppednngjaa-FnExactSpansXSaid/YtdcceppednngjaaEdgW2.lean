/-
  The walk of the exact law of SpansX.
-/
import Derived.Test.YtdcceppednngjaaEdgI
import Derived.Test.YtdcceppednngjaaEdgR
import Derived.Test.YtdcceppednngjaaEdgB
import Derived.Test.YtdcceppednngjaaLB
import Derived.Test.YtdcceppednngjaaPT
import Derived.Deep.RegionHeld3
import Derived.Deep.CutRange
import Derived.Sort.AtCall
namespace Go.Proofs.Ytdcceppednngjaa
open Go.RowKit
set_option linter.unusedVariables false
set_option maxRecDepth 100000 in
set_option maxHeartbeats 16000000 in
theorem FnExactSpansX_walk (w : World) (rx ry ru rv rk : Int) (rl : Bool) (hrx : (Lit.int .i64 rx).wf = true) (hry : (Lit.int .i64 ry).wf = true) (hru : (Lit.int .i64 ru).wf = true) (hrv : (Lit.int .i64 rv).wf = true) (hrk : (Lit.int .i64 rk).wf = true) {p0 p1 p2 : Value} (fp : QRow w p0 p1 p2) {q0 q1 q2 : Value} (fq : QRow w q0 q1 q2) :
    Calls Try.prog 6 #[.agg #[.int .i64 rx, .int .i64 ry, .int .i64 ru, .int .i64 rv, .int .i64 rk, .bool rl], .agg #[p0, p1, p2], .agg #[q0, q1, q2]] w fun e w' => e = .returned (.bool true) ∧ Below w.heap.size w w' := by
  obtain ⟨Lp, gp, Jp⟩ := fp.len
  obtain ⟨Lq, gq, Jq⟩ := fq.len
  obtain ⟨W0, hW0⟩ : ∃ W0, W0 = (((w.alloc (.cells #[.int .i64 rx, .int .i64 ry, .int .i64 ru, .int .i64 rv, .int .i64 rk, .bool rl] 25)).alloc (.cells #[p0, p1, p2] 47)).alloc (.cells #[q0, q1, q2] 47)) := ⟨_, rfl⟩
  have hT0 : Below w.heap.size w W0 := by rw [hW0]; exact below_alloc (below_alloc (below_new _ _) _) _
  have kr : Box W0 (w.heap.size) 25 #[.int .i64 rx, .int .i64 ry, .int .i64 ru, .int .i64 rv, .int .i64 rk, .bool rl] := by rw [hW0]; exact ((Box.last _ _ _ rfl).alloc _).alloc _
  have kp : Box W0 (w.heap.size + 1) 47 #[p0, p1, p2] := by rw [hW0]; exact (Box.last _ _ _ (alloc_size _ _).symm).alloc _
  have kq : Box W0 (w.heap.size + 2) 47 #[q0, q1, q2] := by rw [hW0]; exact Box.last _ _ _ (by rw [alloc_size, alloc_size])
  have hs0 : W0.heap.size = w.heap.size + 3 := by rw [hW0, alloc_size, alloc_size, alloc_size]
  go_enter Try.func6, Try.ntmps6
  go_upto_region 1 with fail
  rw [← hW0]
  clear hW0
  obtain ⟨yp0, yp1, yp2⟩ := kp.cells3
  go_wp2_with fail
  refine (szQ_any W0 gp 1048576 (by omega)).mono ?_
  rintro e w1 ⟨rfl, hb1⟩
  clear yp0 yp1 yp2
  have hs1 := hb1.size
  have hT1 := below_then hT0 hb1
  have kr := kr.below hb1 kr.lt
  have kp := kp.below hb1 kp.lt
  have kq := kq.below hb1 kq.lt
  clear hT0
  clear hb1
  by_cases czp : ¬ Lp ≤ 1048576
  · have hle : leftI 1048576 Lp = -1 := if_neg czp
    rw [hle]
    clear hle
    go_wp2_with fail
    go_ret
    exact ⟨rfl, hT1⟩
  have czp := Decidable.not_not.1 czp
  obtain ⟨Mp, hLp⟩ : ∃ L : Nat, L + Lp = 1048576 := ⟨1048576 - Lp, by omega⟩
  have hle : leftI 1048576 Lp = (Mp : Int) := by rw [leftI, if_pos czp]; omega
  rw [hle]
  clear hle
  have hngp : ¬ (Mp : Int) < 0 := by omega
  obtain ⟨pZ, J0⟩ := Jp (by omega)
  have hpF := J0.fit
  have hp := J0.below hT1
  have HLep := hide hLp
  have hLbp : Mp ≤ 1048576 := by omega
  clear hLp czp J0 Jp gp
  obtain ⟨yq0, yq1, yq2⟩ := kq.cells3
  go_wp2_with fail
  refine (szQ_any w1 gq Mp (by omega)).mono ?_
  rintro e w2 ⟨rfl, hb2⟩
  clear yq0 yq1 yq2
  have hs2 := hb2.size
  have hT2 := below_then hT1 hb2
  have kr := kr.below hb2 kr.lt
  have kp := kp.below hb2 kp.lt
  have kq := kq.below hb2 kq.lt
  have hp := hp.below (hb2.mono (by omega))
  clear hT1
  clear hb2
  by_cases czq : ¬ Lq ≤ Mp
  · have hle : leftI Mp Lq = -1 := if_neg czq
    rw [hle]
    clear hle
    go_wp2_with fail
    go_ret
    exact ⟨rfl, hT2⟩
  have czq := Decidable.not_not.1 czq
  obtain ⟨Mq, hLq⟩ : ∃ L : Nat, L + Lq = Mp := ⟨Mp - Lq, by omega⟩
  have hle : leftI Mp Lq = (Mq : Int) := by rw [leftI, if_pos czq]; omega
  rw [hle]
  clear hle
  have hngq : ¬ (Mq : Int) < 0 := by omega
  obtain ⟨qZ, J0⟩ := Jq (by omega)
  have hqF := J0.fit
  have hq := J0.below hT2
  have HLeq := hide hLq
  have hLbq : Mq ≤ 1048576 := by omega
  clear hLq czq J0 Jq gq
  go_upto_region 8 with fail
  have HCr := hide (fun (W : World) => toEdge_any W rx ry ru rv rk rl hrx hry hru hrv)
  have HCp := hide (fun (W : World) (h : Below w2.heap.size w2 W) => toQ_any W w.heap.size (by have := h.size; omega) (hp.below (h.mono (by omega))))
  have HCq := hide (fun (W : World) (h : Below w2.heap.size w2 W) => toQ_any W w.heap.size (by have := h.size; omega) (hq.below (h.mono (by omega))))
  have HBr := hide kr
  have HBp := hide kp
  have HBq := hide kq
  have HS0 : Hid (Below w2.heap.size w2 w2.drew) := (Below.refl _ _).drew
  have HKS := hide (fun (W : World) (hq : Below w2.heap.size w2 W) => (⟨(HBr.out.below hq HBr.out.lt).cell 0, (HBr.out.below hq HBr.out.lt).cell 1, (HBr.out.below hq HBr.out.lt).cell 2, (HBr.out.below hq HBr.out.lt).cell 3, (HBr.out.below hq HBr.out.lt).cell 4, (HBr.out.below hq HBr.out.lt).cell 5, (HBp.out.below hq HBp.out.lt).cell 0, (HBp.out.below hq HBp.out.lt).cell 1, (HBp.out.below hq HBp.out.lt).cell 2, (HBq.out.below hq HBq.out.lt).cell 0, (HBq.out.below hq HBq.out.lt).cell 1, (HBq.out.below hq HBq.out.lt).cell 2⟩ : W.cell? ⟨w.heap.size, 0, none⟩ = some (.int .i64 rx) ∧ W.cell? ⟨w.heap.size, 1, none⟩ = some (.int .i64 ry) ∧ W.cell? ⟨w.heap.size, 2, none⟩ = some (.int .i64 ru) ∧ W.cell? ⟨w.heap.size, 3, none⟩ = some (.int .i64 rv) ∧ W.cell? ⟨w.heap.size, 4, none⟩ = some (.int .i64 rk) ∧ W.cell? ⟨w.heap.size, 5, none⟩ = some (.bool rl) ∧ W.cell? ⟨w.heap.size + 1, 0, none⟩ = some (p0) ∧ W.cell? ⟨w.heap.size + 1, 1, none⟩ = some (p1) ∧ W.cell? ⟨w.heap.size + 1, 2, none⟩ = some (p2) ∧ W.cell? ⟨w.heap.size + 2, 0, none⟩ = some (q0) ∧ W.cell? ⟨w.heap.size + 2, 1, none⟩ = some (q1) ∧ W.cell? ⟨w.heap.size + 2, 2, none⟩ = some (q2)))
  have HIp := hide hp
  have HIq := hide hq
  obtain ⟨yr0, yr1, yr2, yr3, yr4, yr5⟩ := kr.cells6
  obtain ⟨yp0, yp1, yp2⟩ := kp.cells3
  obtain ⟨yq0, yq1, yq2⟩ := kq.cells3
  go_region_held3 (fun w' => w'.cell? ⟨w.heap.size, 0, none⟩ = some (.int .i64 rx) ∧ w'.cell? ⟨w.heap.size, 1, none⟩ = some (.int .i64 ry) ∧ w'.cell? ⟨w.heap.size, 2, none⟩ = some (.int .i64 ru) ∧ w'.cell? ⟨w.heap.size, 3, none⟩ = some (.int .i64 rv) ∧ w'.cell? ⟨w.heap.size, 4, none⟩ = some (.int .i64 rk) ∧ w'.cell? ⟨w.heap.size, 5, none⟩ = some (.bool rl) ∧ w'.cell? ⟨w.heap.size + 1, 0, none⟩ = some (p0) ∧ w'.cell? ⟨w.heap.size + 1, 1, none⟩ = some (p1) ∧ w'.cell? ⟨w.heap.size + 1, 2, none⟩ = some (p2) ∧ w'.cell? ⟨w.heap.size + 2, 0, none⟩ = some (q0) ∧ w'.cell? ⟨w.heap.size + 2, 1, none⟩ = some (q1) ∧ w'.cell? ⟨w.heap.size + 2, 2, none⟩ = some (q2))
      (first | (with_reducible exact HKS.out _ HS4.out) | (with_reducible exact HKS.out _ HS3.out) | (with_reducible exact HKS.out _ HS2.out) | (with_reducible exact HKS.out _ HS1.out) | (with_reducible exact HKS.out _ HS0.out))
      (first
        | (go_at_call 26; have HX := HS3.out; refine (spec_SpansX u3 u3.heap.size (Nat.le_refl _) rx ry ru rv rk rl hrx hry hru hrv qtp qtq).mono ?_; rintro e u4 ⟨rfl, hb4⟩; have qtp := qtp.up hb4; have otp := otp.below hb4 (by omega); have qtq := qtq.up hb4; have otq := otq.below hb4 (by omega); have hz4 : u3.heap.size ≤ u4.heap.size := hb4.size; have HS4 := hide (below_then HX hb4); clear HX)
        | (go_at_call 21; have HX := HS2.out; refine (HCq.out _ HS2.out).mono ?_; rintro e u3 ⟨tq0, tq1, tq2, rfl, otq, hb3⟩; obtain ⟨tqb, tqA, tqn, tqc, tqD, tqm, tqk, rfl, rfl, rfl⟩ := otq.cut; have otq : QOwn u3 u2.heap.size u3.heap.size 3 (.bool tqb) (.slice tqA tqn tqc) (.slice tqD tqm tqk) (qZ) := otq; have qtq := otq.in_ (hqF) (Nat.le_refl _); have qtp := qtp.up hb3; have otp := otp.below hb3 (by omega); have hz3 : u2.heap.size ≤ u3.heap.size := hb3.size; have HS3 := hide (below_then HX hb3); clear HX)
        | (go_at_call 21; have HX := HS1.out; refine (HCp.out _ HS1.out).mono ?_; rintro e u2 ⟨tp0, tp1, tp2, rfl, otp, hb2⟩; obtain ⟨tpb, tpA, tpn, tpc, tpD, tpm, tpk, rfl, rfl, rfl⟩ := otp.cut; have otp : QOwn u2 u1.heap.size u2.heap.size 3 (.bool tpb) (.slice tpA tpn tpc) (.slice tpD tpm tpk) (pZ) := otp; have qtp := otp.in_ (hpF) (Nat.le_refl _); have hz2 : u1.heap.size ≤ u2.heap.size := hb2.size; have HS2 := hide (below_then HX hb2); clear HX)
        | (go_at_call 8; have HX := HS0.out; refine (HCr.out _).mono ?_; rintro e u1 ⟨rfl, hb1⟩; have hz1 : w2.heap.size ≤ u1.heap.size := hb1.size; have HS1 := hide (below_then HX hb1); clear HX))
  have hb3z := HS4.out
  obtain ⟨w3, hw3⟩ : ∃ x, x = u4 := ⟨_, rfl⟩
  subst hw3
  clear HKS HS0 HS1 HS2 HS3 HS4 hb1 hb2 hb3 hb4 hz1 hz2 hz3 hz4 HBr HBp HBq HIp HIq otp qtp otq qtq HCr HCp HCq
  clear yr0 yr1 yr2 yr3 yr4 yr5 yp0 yp1 yp2 yq0 yq1 yq2
  have hs3 := hb3z.size
  have hT3 := below_then hT2 hb3z
  have kr := kr.below hb3z kr.lt
  have kp := kp.below hb3z kp.lt
  have kq := kq.below hb3z kq.lt
  have hp := hp.below (hb3z.mono (by omega))
  have hq := hq.below (hb3z.mono (by omega))
  clear hT2
  clear hb3z
  obtain ⟨yp0, yp1, yp2⟩ := kp.cells3
  go_wp2_with fail
  refine (toQ_any w3 w.heap.size hT3.size hp).mono ?_
  rintro e w4 ⟨xp0, xp1, xp2, rfl, oxp, hb4⟩
  clear yp0 yp1 yp2
  obtain ⟨xpb, xpA, xpn, xpc, xpD, xpm, xpk, rfl, rfl, rfl⟩ := oxp.cut
  have hs4 := hb4.size
  have hT4 := below_then hT3 hb4
  have kr := kr.below hb4 kr.lt
  have kp := kp.below hb4 kp.lt
  have kq := kq.below hb4 kq.lt
  have hp := hp.below (hb4.mono (by omega))
  have hq := hq.below (hb4.mono (by omega))
  clear hT3
  clear hb4
  obtain ⟨w5, hw5⟩ : ∃ xw, xw = (w4.alloc (.cells #[.bool xpb, .slice xpA xpn xpc, .slice xpD xpm xpk] 51)) := ⟨_, rfl⟩
  have hb5 : Below w4.heap.size w4 w5 := by rw [hw5]; exact below_new _ _
  have hq5 : w5.heap.size = w4.heap.size + 1 := by rw [hw5, alloc_size]
  have kxp : Box w5 (w4.heap.size) 51 #[.bool xpb, .slice xpA xpn xpc, .slice xpD xpm xpk] := by rw [hw5]; exact Box.last _ _ _ (by omega)
  have hs5 := hb5.size
  have hT5 := below_then hT4 hb5
  have kr := kr.below hb5 kr.lt
  have kp := kp.below hb5 kp.lt
  have kq := kq.below hb5 kq.lt
  have hp := hp.below (hb5.mono (by omega))
  have hq := hq.below (hb5.mono (by omega))
  have oxp := oxp.below hb5 (by omega)
  clear hT4
  go_upto_region 10 with fail
  rw [← hw5]
  clear hw5 hb5
  obtain ⟨yq0, yq1, yq2⟩ := kq.cells3
  go_wp2_with fail
  refine (toQ_any w5 w.heap.size hT5.size hq).mono ?_
  rintro e w6 ⟨xq0, xq1, xq2, rfl, oxq, hb6⟩
  clear yq0 yq1 yq2
  obtain ⟨xqb, xqA, xqn, xqc, xqD, xqm, xqk, rfl, rfl, rfl⟩ := oxq.cut
  have hs6 := hb6.size
  have hT6 := below_then hT5 hb6
  have kr := kr.below hb6 kr.lt
  have kp := kp.below hb6 kp.lt
  have kq := kq.below hb6 kq.lt
  have kxp := kxp.below hb6 kxp.lt
  have hp := hp.below (hb6.mono (by omega))
  have hq := hq.below (hb6.mono (by omega))
  have oxp := oxp.below hb6 (by omega)
  clear hT5
  clear hb6
  obtain ⟨w7, hw7⟩ : ∃ xw, xw = (w6.alloc (.cells #[.bool xqb, .slice xqA xqn xqc, .slice xqD xqm xqk] 51)) := ⟨_, rfl⟩
  have hb7 : Below w6.heap.size w6 w7 := by rw [hw7]; exact below_new _ _
  have hq7 : w7.heap.size = w6.heap.size + 1 := by rw [hw7, alloc_size]
  have kxq : Box w7 (w6.heap.size) 51 #[.bool xqb, .slice xqA xqn xqc, .slice xqD xqm xqk] := by rw [hw7]; exact Box.last _ _ _ (by omega)
  have hs7 := hb7.size
  have hT7 := below_then hT6 hb7
  have kr := kr.below hb7 kr.lt
  have kp := kp.below hb7 kp.lt
  have kq := kq.below hb7 kq.lt
  have kxp := kxp.below hb7 kxp.lt
  have hp := hp.below (hb7.mono (by omega))
  have hq := hq.below (hb7.mono (by omega))
  have oxp := oxp.below hb7 (by omega)
  have oxq := oxq.below hb7 (by omega)
  clear hT6
  go_upto_region 11 with fail
  rw [← hw7]
  clear hw7 hb7
  go_upto_region 11 with fail
  have HCr := hide (fun (W : World) => toEdge_any W rx ry ru rv rk rl hrx hry hru hrv)
  have HXp := hide (fun (W : World) (h : Below w7.heap.size w7 W) => (oxp.in_ hpF (show _ ≤ w7.heap.size by omega)).below h |>.wider h.size)
  have HXq := hide (fun (W : World) (h : Below w7.heap.size w7 W) => (oxq.in_ hqF (show _ ≤ w7.heap.size by omega)).below h |>.wider h.size)
  have HBr := hide kr
  have HBxp := hide kxp
  have HBxq := hide kxq
  have HS0 : Hid (Below w7.heap.size w7 w7.drew) := (Below.refl _ _).drew
  have HKS := hide (fun (W : World) (hq : Below w7.heap.size w7 W) => (⟨(HBr.out.below hq HBr.out.lt).cell 0, (HBr.out.below hq HBr.out.lt).cell 1, (HBr.out.below hq HBr.out.lt).cell 2, (HBr.out.below hq HBr.out.lt).cell 3, (HBr.out.below hq HBr.out.lt).cell 4, (HBr.out.below hq HBr.out.lt).cell 5, (HBxp.out.below hq HBxp.out.lt).cell 0, (HBxp.out.below hq HBxp.out.lt).cell 1, (HBxp.out.below hq HBxp.out.lt).cell 2, (HBxq.out.below hq HBxq.out.lt).cell 0, (HBxq.out.below hq HBxq.out.lt).cell 1, (HBxq.out.below hq HBxq.out.lt).cell 2⟩ : W.cell? ⟨w.heap.size, 0, none⟩ = some (.int .i64 rx) ∧ W.cell? ⟨w.heap.size, 1, none⟩ = some (.int .i64 ry) ∧ W.cell? ⟨w.heap.size, 2, none⟩ = some (.int .i64 ru) ∧ W.cell? ⟨w.heap.size, 3, none⟩ = some (.int .i64 rv) ∧ W.cell? ⟨w.heap.size, 4, none⟩ = some (.int .i64 rk) ∧ W.cell? ⟨w.heap.size, 5, none⟩ = some (.bool rl) ∧ W.cell? ⟨w4.heap.size, 0, none⟩ = some (.bool xpb) ∧ W.cell? ⟨w4.heap.size, 1, none⟩ = some (.slice xpA xpn xpc) ∧ W.cell? ⟨w4.heap.size, 2, none⟩ = some (.slice xpD xpm xpk) ∧ W.cell? ⟨w6.heap.size, 0, none⟩ = some (.bool xqb) ∧ W.cell? ⟨w6.heap.size, 1, none⟩ = some (.slice xqA xqn xqc) ∧ W.cell? ⟨w6.heap.size, 2, none⟩ = some (.slice xqD xqm xqk)))
  have HIp := hide hp
  have HIq := hide hq
  obtain ⟨yr0, yr1, yr2, yr3, yr4, yr5⟩ := kr.cells6
  obtain ⟨yxp0, yxp1, yxp2⟩ := kxp.cells3
  obtain ⟨yxq0, yxq1, yxq2⟩ := kxq.cells3
  go_region_held3 (fun w' => w'.cell? ⟨w.heap.size, 0, none⟩ = some (.int .i64 rx) ∧ w'.cell? ⟨w.heap.size, 1, none⟩ = some (.int .i64 ry) ∧ w'.cell? ⟨w.heap.size, 2, none⟩ = some (.int .i64 ru) ∧ w'.cell? ⟨w.heap.size, 3, none⟩ = some (.int .i64 rv) ∧ w'.cell? ⟨w.heap.size, 4, none⟩ = some (.int .i64 rk) ∧ w'.cell? ⟨w.heap.size, 5, none⟩ = some (.bool rl) ∧ w'.cell? ⟨w4.heap.size, 0, none⟩ = some (.bool xpb) ∧ w'.cell? ⟨w4.heap.size, 1, none⟩ = some (.slice xpA xpn xpc) ∧ w'.cell? ⟨w4.heap.size, 2, none⟩ = some (.slice xpD xpm xpk) ∧ w'.cell? ⟨w6.heap.size, 0, none⟩ = some (.bool xqb) ∧ w'.cell? ⟨w6.heap.size, 1, none⟩ = some (.slice xqA xqn xqc) ∧ w'.cell? ⟨w6.heap.size, 2, none⟩ = some (.slice xqD xqm xqk))
      (first | (with_reducible exact HKS.out _ HS2.out) | (with_reducible exact HKS.out _ HS1.out) | (with_reducible exact HKS.out _ HS0.out))
      (first
        | (go_at_call 27; have HX := HS1.out; refine (impl_SpansX u1 u1.heap.size (Nat.le_refl _) rx ry ru rv rk rl hrx hry hru hrv (HXp.out _ HS1.out) (HXq.out _ HS1.out)).mono ?_; rintro e u2 ⟨rfl, hb2⟩; have hz2 : u1.heap.size ≤ u2.heap.size := hb2.size; have HS2 := hide (below_then HX hb2); clear HX)
        | (go_at_call 8; have HX := HS0.out; refine (HCr.out _).mono ?_; rintro e u1 ⟨rfl, hb1⟩; have hz1 : w7.heap.size ≤ u1.heap.size := hb1.size; have HS1 := hide (below_then HX hb1); clear HX))
  have hb8z := HS2.out
  obtain ⟨w8, hw8⟩ : ∃ x, x = u2 := ⟨_, rfl⟩
  subst hw8
  clear HKS HS0 HS1 HS2 hb1 hb2 hz1 hz2 HBr HBxp HBxq HIp HIq HCr HXp HXq
  clear yr0 yr1 yr2 yr3 yr4 yr5 yxp0 yxp1 yxp2 yxq0 yxq1 yxq2
  have hs8 := hb8z.size
  have hT8 := below_then hT7 hb8z
  have kr := kr.below hb8z kr.lt
  have kp := kp.below hb8z kp.lt
  have kq := kq.below hb8z kq.lt
  have kxp := kxp.below hb8z kxp.lt
  have kxq := kxq.below hb8z kxq.lt
  have hp := hp.below (hb8z.mono (by omega))
  have hq := hq.below (hb8z.mono (by omega))
  have oxp := oxp.below hb8z (by omega)
  have oxq := oxq.below hb8z (by omega)
  clear hT7
  clear hb8z
  go_upto_region 14 with fail
  have HCp := hide (fun (W : World) (h : Below w8.heap.size w8 W) => toQ_any W w.heap.size (by have := h.size; omega) (hp.below (h.mono (by omega))))
  have HE := hide (fun (W : World) (h : Below w8.heap.size w8 W) => ((oxp.in_ hpF (show _ ≤ w8.heap.size by omega)).below h).wider h.size)
  have HBxp := hide kxp
  have HBp := hide kp
  have HS0 : Hid (Below w8.heap.size w8 w8.drew) := (Below.refl _ _).drew
  have HKS := hide (fun (W : World) (hq : Below w8.heap.size w8 W) => (⟨(HBxp.out.below hq HBxp.out.lt).cell 0, (HBxp.out.below hq HBxp.out.lt).cell 1, (HBxp.out.below hq HBxp.out.lt).cell 2, (HBp.out.below hq HBp.out.lt).cell 0, (HBp.out.below hq HBp.out.lt).cell 1, (HBp.out.below hq HBp.out.lt).cell 2⟩ : W.cell? ⟨w4.heap.size, 0, none⟩ = some (.bool xpb) ∧ W.cell? ⟨w4.heap.size, 1, none⟩ = some (.slice xpA xpn xpc) ∧ W.cell? ⟨w4.heap.size, 2, none⟩ = some (.slice xpD xpm xpk) ∧ W.cell? ⟨w.heap.size + 1, 0, none⟩ = some (p0) ∧ W.cell? ⟨w.heap.size + 1, 1, none⟩ = some (p1) ∧ W.cell? ⟨w.heap.size + 1, 2, none⟩ = some (p2)))
  have HIp := hide hp
  have HIq := hide hq
  obtain ⟨yxp0, yxp1, yxp2⟩ := kxp.cells3
  obtain ⟨yp0, yp1, yp2⟩ := kp.cells3
  go_region_held3 (fun w' => w'.cell? ⟨w4.heap.size, 0, none⟩ = some (.bool xpb) ∧ w'.cell? ⟨w4.heap.size, 1, none⟩ = some (.slice xpA xpn xpc) ∧ w'.cell? ⟨w4.heap.size, 2, none⟩ = some (.slice xpD xpm xpk) ∧ w'.cell? ⟨w.heap.size + 1, 0, none⟩ = some (p0) ∧ w'.cell? ⟨w.heap.size + 1, 1, none⟩ = some (p1) ∧ w'.cell? ⟨w.heap.size + 1, 2, none⟩ = some (p2))
      (first | (with_reducible exact HKS.out _ HS2.out) | (with_reducible exact HKS.out _ HS1.out) | (with_reducible exact HKS.out _ HS0.out))
      (first
        | (go_at_call 23; have HX := HS1.out; refine (eqQ_any u1 u1.heap.size (Nat.le_refl _) (HE.out _ HS1.out) qtt).mono ?_; rintro e u2 ⟨rfl, hb2⟩; have qtt := qtt.up hb2; have ott := ott.below hb2 (by omega); have hz2 : u1.heap.size ≤ u2.heap.size := hb2.size; have HS2 := hide (below_then HX hb2); clear HX)
        | (go_at_call 21; have HX := HS0.out; refine (HCp.out _ HS0.out).mono ?_; rintro e u1 ⟨tt0, tt1, tt2, rfl, ott, hb1⟩; obtain ⟨ttb, ttA, ttn, ttc, ttD, ttm, ttk, rfl, rfl, rfl⟩ := ott.cut; have ott : QOwn u1 w8.heap.size u1.heap.size 3 (.bool ttb) (.slice ttA ttn ttc) (.slice ttD ttm ttk) (pZ) := ott; have qtt := ott.in_ (hpF) (Nat.le_refl _); have hz1 : w8.heap.size ≤ u1.heap.size := hb1.size; have HS1 := hide (below_then HX hb1); clear HX))
  have hb9z := HS2.out
  obtain ⟨w9, hw9⟩ : ∃ x, x = u2 := ⟨_, rfl⟩
  subst hw9
  clear HKS HS0 HS1 HS2 hb1 hb2 hz1 hz2 HBxp HBp HIp HIq ott qtt HCp HE
  clear yxp0 yxp1 yxp2 yp0 yp1 yp2
  have hs9 := hb9z.size
  have hT9 := below_then hT8 hb9z
  have kr := kr.below hb9z kr.lt
  have kp := kp.below hb9z kp.lt
  have kq := kq.below hb9z kq.lt
  have kxp := kxp.below hb9z kxp.lt
  have kxq := kxq.below hb9z kxq.lt
  have hp := hp.below (hb9z.mono (by omega))
  have hq := hq.below (hb9z.mono (by omega))
  have oxp := oxp.below hb9z (by omega)
  have oxq := oxq.below hb9z (by omega)
  clear hT8
  clear hb9z
  go_upto_region 16 with fail
  have HCq := hide (fun (W : World) (h : Below w9.heap.size w9 W) => toQ_any W w.heap.size (by have := h.size; omega) (hq.below (h.mono (by omega))))
  have HE := hide (fun (W : World) (h : Below w9.heap.size w9 W) => ((oxq.in_ hqF (show _ ≤ w9.heap.size by omega)).below h).wider h.size)
  have HBxq := hide kxq
  have HBq := hide kq
  have HS0 : Hid (Below w9.heap.size w9 w9.drew) := (Below.refl _ _).drew
  have HKS := hide (fun (W : World) (hq : Below w9.heap.size w9 W) => (⟨(HBxq.out.below hq HBxq.out.lt).cell 0, (HBxq.out.below hq HBxq.out.lt).cell 1, (HBxq.out.below hq HBxq.out.lt).cell 2, (HBq.out.below hq HBq.out.lt).cell 0, (HBq.out.below hq HBq.out.lt).cell 1, (HBq.out.below hq HBq.out.lt).cell 2⟩ : W.cell? ⟨w6.heap.size, 0, none⟩ = some (.bool xqb) ∧ W.cell? ⟨w6.heap.size, 1, none⟩ = some (.slice xqA xqn xqc) ∧ W.cell? ⟨w6.heap.size, 2, none⟩ = some (.slice xqD xqm xqk) ∧ W.cell? ⟨w.heap.size + 2, 0, none⟩ = some (q0) ∧ W.cell? ⟨w.heap.size + 2, 1, none⟩ = some (q1) ∧ W.cell? ⟨w.heap.size + 2, 2, none⟩ = some (q2)))
  have HIp := hide hp
  have HIq := hide hq
  obtain ⟨yxq0, yxq1, yxq2⟩ := kxq.cells3
  obtain ⟨yq0, yq1, yq2⟩ := kq.cells3
  go_region_held3 (fun w' => w'.cell? ⟨w6.heap.size, 0, none⟩ = some (.bool xqb) ∧ w'.cell? ⟨w6.heap.size, 1, none⟩ = some (.slice xqA xqn xqc) ∧ w'.cell? ⟨w6.heap.size, 2, none⟩ = some (.slice xqD xqm xqk) ∧ w'.cell? ⟨w.heap.size + 2, 0, none⟩ = some (q0) ∧ w'.cell? ⟨w.heap.size + 2, 1, none⟩ = some (q1) ∧ w'.cell? ⟨w.heap.size + 2, 2, none⟩ = some (q2))
      (first | (with_reducible exact HKS.out _ HS2.out) | (with_reducible exact HKS.out _ HS1.out) | (with_reducible exact HKS.out _ HS0.out))
      (first
        | (go_at_call 23; have HX := HS1.out; refine (eqQ_any u1 u1.heap.size (Nat.le_refl _) (HE.out _ HS1.out) qtt).mono ?_; rintro e u2 ⟨rfl, hb2⟩; have qtt := qtt.up hb2; have ott := ott.below hb2 (by omega); have hz2 : u1.heap.size ≤ u2.heap.size := hb2.size; have HS2 := hide (below_then HX hb2); clear HX)
        | (go_at_call 21; have HX := HS0.out; refine (HCq.out _ HS0.out).mono ?_; rintro e u1 ⟨tt0, tt1, tt2, rfl, ott, hb1⟩; obtain ⟨ttb, ttA, ttn, ttc, ttD, ttm, ttk, rfl, rfl, rfl⟩ := ott.cut; have ott : QOwn u1 w9.heap.size u1.heap.size 3 (.bool ttb) (.slice ttA ttn ttc) (.slice ttD ttm ttk) (qZ) := ott; have qtt := ott.in_ (hqF) (Nat.le_refl _); have hz1 : w9.heap.size ≤ u1.heap.size := hb1.size; have HS1 := hide (below_then HX hb1); clear HX))
  have hb10z := HS2.out
  obtain ⟨w10, hw10⟩ : ∃ x, x = u2 := ⟨_, rfl⟩
  subst hw10
  clear HKS HS0 HS1 HS2 hb1 hb2 hz1 hz2 HBxq HBq HIp HIq ott qtt HCq HE
  clear yxq0 yxq1 yxq2 yq0 yq1 yq2
  have hs10 := hb10z.size
  have hT10 := below_then hT9 hb10z
  have kr := kr.below hb10z kr.lt
  have kp := kp.below hb10z kp.lt
  have kq := kq.below hb10z kq.lt
  have kxp := kxp.below hb10z kxp.lt
  have kxq := kxq.below hb10z kxq.lt
  have hp := hp.below (hb10z.mono (by omega))
  have hq := hq.below (hb10z.mono (by omega))
  have oxp := oxp.below hb10z (by omega)
  have oxq := oxq.below hb10z (by omega)
  clear hT9
  clear hb10z
  go_wp2
  go_ret
  exact ⟨rfl, hT10⟩
end Go.Proofs.Ytdcceppednngjaa
