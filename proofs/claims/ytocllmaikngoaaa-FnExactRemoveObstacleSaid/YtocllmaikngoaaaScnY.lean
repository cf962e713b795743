/-
  The program's scenes: contracts (6): hasObstacle, RemoveObstacle.
-/
import Derived.Test.YtocllmaikngoaaaScnE
import Derived.Test.YtocllmaikngoaaaScnX
import Derived.Test.YtocllmaikngoaaaSB
namespace Go.Proofs.Ytocllmaikngoaaa
open Go.RowKit
set_option linter.unusedVariables false
set_option maxHeartbeats 1600000 in
theorem impl_hasObstacle (w : World) {v0 v1 v2 v3 v4 v5 v6 : Value} {S : Scn} {B : Nat} (h : SIn w B v0 v1 v2 v3 v4 v5 v6 S) (k : Int) (fk : (Lit.int .i64 k).wf = true) :
    Calls Try.prog 30 #[.agg #[v0, v1, v2, v3, v4, v5, v6], .int .i64 k] w fun e w' => e = .returned (.bool (hasB S k)) ∧ Below w.heap.size w w' := by
  obtain ⟨RA, rc, OA, oc, TA, tc, os, ⟨rfl, rfl, rfl, rfl, rfl, rfl, rfl⟩, hR, ⟨hO, hc⟩, hT, _⟩ := h
  have hol := hO.2.2.1
  obtain ⟨k1, k2⟩ := bounds_i64 fk
  have HE : Hid (hasB S k = (decide (0 ≤ k) && decide (k < (S.o.length : Int)))) := rfl
  rw [HE.out]
  clear HE hR hO hT hc
  generalize S.o.length = on at *
  have kp : Box (w.alloc (.cells #[.int .i64 S.lx, .int .i64 S.ly, .int .i64 S.hx, .int .i64 S.hy, .slice RA S.r.length rc, .slice OA on oc, .slice TA S.t.length tc] 33)) w.heap.size 33 #[.int .i64 S.lx, .int .i64 S.ly, .int .i64 S.hx, .int .i64 S.hy, .slice RA S.r.length rc, .slice OA on oc, .slice TA S.t.length tc] := Box.last _ _ _ rfl
  have hb := below_new w (.cells #[.int .i64 S.lx, .int .i64 S.ly, .int .i64 S.hx, .int .i64 S.hy, .slice RA S.r.length rc, .slice OA on oc, .slice TA S.t.length tc] 33)
  obtain ⟨yp0, yp1, yp2, yp3, yp4, yp5, yp6⟩ := kp.cells7
  by_cases c1 : 0 ≤ k
  · by_cases c2 : k < (on : Int)
    · rw [decide_eq_true c1, decide_eq_true c2]
      go_enter Try.func30, Try.ntmps30
      go_wp2_with fail
      go_ret
      exact ⟨rfl, hb⟩
    · rw [decide_eq_true c1, decide_eq_false c2]
      go_enter Try.func30, Try.ntmps30
      go_wp2_with fail
      go_ret
      exact ⟨rfl, hb⟩
  · rw [decide_eq_false c1]
    go_enter Try.func30, Try.ntmps30
    go_wp2_with fail
    go_ret
    exact ⟨rfl, hb⟩
set_option maxRecDepth 100000 in
set_option maxHeartbeats 6400000 in
theorem impl_RemoveObstacle (w : World) (B : Nat) (hB : B ≤ w.heap.size) {v0 v1 v2 v3 v4 v5 v6 : Value} {S : Scn} (h : SIn w B v0 v1 v2 v3 v4 v5 v6 S) (k : Int) (fk : (Lit.int .i64 k).wf = true) :
    Calls Try.prog 9 #[.agg #[v0, v1, v2, v3, v4, v5, v6], .int .i64 k] w fun e w' => SResB 30 29 w w' e (remS S k) (remB S k) := by
  have h' := h
  obtain ⟨RA, rc, OA, oc, TA, tc, os, ⟨rfl, rfl, rfl, rfl, rfl, rfl, rfl⟩, hR, ⟨hO, hc⟩, hT, hwf⟩ := h
  clear hR hT hwf
  have hol := hO.1
  have hol2 := hO.2.2.1
  obtain ⟨k1, k2⟩ := bounds_i64 fk
  have HH := hide (fun (W : World) (hb : Below w.heap.size w W) => impl_hasObstacle W (h'.below (hb.mono hB)) k fk)
  have HCo := hide (fun (W : World) (hb : Below w.heap.size w W) => impl_scnCopied W B (Nat.le_trans hB hb.size) (h'.below (hb.mono hB)))
  unfold SRes at HCo
  obtain ⟨W0, hW0⟩ : ∃ W0, W0 = (w.alloc (.cells #[.int .i64 S.lx, .int .i64 S.ly, .int .i64 S.hx, .int .i64 S.hy, .slice RA S.r.length rc, .slice OA S.o.length oc, .slice TA S.t.length tc] 33)).alloc (.cells #[.int .i64 0, .int .i64 0, .int .i64 0, .int .i64 0, .slice none 0 0, .slice none 0 0, .slice none 0 0] 33) := ⟨_, rfl⟩
  have hT0 : Below w.heap.size w W0 := by rw [hW0]; exact below_alloc (below_new _ _) _
  have kp : Box W0 w.heap.size 33 #[.int .i64 S.lx, .int .i64 S.ly, .int .i64 S.hx, .int .i64 S.hy, .slice RA S.r.length rc, .slice OA S.o.length oc, .slice TA S.t.length tc] := by rw [hW0]; exact (Box.last _ _ _ rfl).alloc _
  have kr : Box W0 (w.heap.size + 1) 33 #[.int .i64 0, .int .i64 0, .int .i64 0, .int .i64 0, .slice none 0 0, .slice none 0 0, .slice none 0 0] := by rw [hW0]; exact Box.last _ _ _ (alloc_size _ _).symm
  have hs0 : w.heap.size + 2 ≤ W0.heap.size := by rw [hW0, alloc_size, alloc_size]; omega
  cases hk : hasB S k with
  | false =>
    have HR1 : Hid (remB S k = false ∧ remS S k = S) := by
      have e : remB S k = false := by unfold remB; rw [hk, Bool.and_false]
      exact ⟨e, by unfold remS; rw [e]; rfl⟩
    rw [HR1.out.1, HR1.out.2]
    rw [hk] at HH
    clear HR1 hO hc h' hol
    go_enter Try.func9, Try.ntmps9
    go_upto_region 1 with fail
    rw [← hW0]
    clear hW0
    obtain ⟨yp0, yp1, yp2, yp3, yp4, yp5, yp6⟩ := kp.cells7
    go_wp2_with fail
    refine (HH.out _ hT0).mono ?_
    rintro e w1 ⟨rfl, hb1⟩
    clear yp0 yp1 yp2 yp3 yp4 yp5 yp6
    have hT1 := below_then hT0 hb1
    have hs1 := hb1.size
    have kp := kp.below hb1 kp.lt
    have kr := kr.below hb1 kr.lt
    clear hb1 hT0
    obtain ⟨yp0, yp1, yp2, yp3, yp4, yp5, yp6⟩ := kp.cells7
    go_wp2_with fail
    refine (HCo.out _ hT1).mono ?_
    rintro e w2 ⟨q0, q1, q2, q3, q4, q5, q6, rfl, oq, hb2⟩
    obtain ⟨QA, qa, QB, qb, QC, qc, ⟨rfl, rfl, rfl, rfl, rfl, rfl, rfl⟩⟩ := oq.form
    clear yp0 yp1 yp2 yp3 yp4 yp5 yp6
    have hT2 := below_then hT1 hb2
    have hs2 := hb2.size
    have HKR := hide (kr.below hb2 kr.lt)
    obtain ⟨yr0, yr1, yr2, yr3, yr4, yr5, yr6⟩ := HKR.out.cells7
    obtain ⟨zr0, zr1, zr2, zr3, zr4, zr5, zr6⟩ := HKR.out.frz7
    have HOQ := hide oq
    have HTQ := hide hT2
    clear kp kr oq hT2 hb2
    go_wp2_with fail
    obtain ⟨r1, r2, r3⟩ := ret_scn HKR.out HOQ.out HTQ.out (by omega) (by omega) (Nat.le_refl _) (.inl (by omega))
    refine bodyPost_ret (results_cell_tmp rfl _ _ (w.heap.size + 1) _ #[.int .i64 S.lx, .int .i64 S.ly, .int .i64 S.hx, .int .i64 S.hy, .slice QA S.r.length qa, .slice QB S.o.length qb, .slice QC S.t.length qc] (0, 0) _ rfl r1 Try.underlying33 rfl Try.sizeScn) rfl ?_
    exact ⟨_, _, _, _, _, _, _, rfl, r2, r3⟩
  | true =>
    have hkr : 0 ≤ k ∧ k < (S.o.length : Int) := by unfold hasB at hk; simpa using hk
    obtain ⟨i, rfl⟩ : ∃ i : Nat, k = (i : Int) := ⟨k.toNat, by omega⟩
    have hin : i < S.o.length := by omega
    rw [hk] at HH
    have hcn : cont (lessL os i) = lessL S.o i := by rw [cont_out, hc]
    have HR1 : Hid (remB S (i : Int) = chgB S (lessL S.o i) ∧ remS S (i : Int) = chgS S (lessL S.o i)) := rem_chg hin
    rw [HR1.out.1, HR1.out.2]
    have HCl := hide (fun (W : World) (hb : Below w.heap.size w W) => impl_CloneS W B (Nat.le_trans hB hb.size) OA S.o.length oc os (hO.below (hb.mono hB)))
    have HDe := hide (fun (W : World) (lo hi g c : Nat) (o : OwnR W lo hi 30 (.slice (some ⟨g, 0, none⟩) S.o.length c) S.o.length os) => impl_DeleteS W lo hi g S.o.length c i (i + 1) os o hin rfl hol2)
    have hlen2 : (lessL os i).length = S.o.length - 1 := by rw [lessL_len (by omega)]; omega
    have HW := hide (fun (W : World) (hb : Below w.heap.size w W) (NA : Option Addr) (nc : Nat) (r : Rd W W.heap.size NA (slv (lessL os i))) => impl_scnWith W W.heap.size (Nat.le_refl _) ((h'.below (hb.mono hB)).wider (Nat.le_trans hB hb.size)) NA (S.o.length - 1) nc (lessL os i) ⟨hlen2, r, by omega, fun s hs => by
      have hm : s ∈ os := by
        rcases List.mem_append.1 hs with hs | hs
        · exact List.mem_of_mem_take hs
        · exact List.mem_of_mem_drop hs
      exact ((hO.2.2.2 s hm).below (hb.mono hB)).wider (Nat.le_trans hB hb.size)⟩)
    rw [hcn] at HW
    unfold SResB at HW
    obtain ⟨Z, hZ⟩ : ∃ Z, Z = chgS S (lessL S.o i) := ⟨_, rfl⟩
    obtain ⟨b, hbb⟩ : ∃ b, b = chgB S (lessL S.o i) := ⟨_, rfl⟩
    rw [← hZ, ← hbb] at HW ⊢
    have HSH := hide (fun (W : World) (lo hi : Nat) (v : Value) (o : OwnR W lo hi 30 v S.o.length os) => (show ∃ g c, v = .slice (some ⟨g, 0, none⟩) S.o.length c ∧ lo ≤ g ∧ g < hi from by
      rcases own_form o.1 with ⟨_, h0, _⟩ | ⟨g, c, hv, h1, _⟩
      · omega
      · exact ⟨g, c, hv, h1, o.2 g (by rw [hv]; rfl)⟩))
    clear h' hO hc hcn hZ hbb HR1 hlen2 hk hkr HCo
    have HI : Hid (IntKind.i64.wrap ((i : Int) + 1) = ((i + 1 : Nat) : Int)) := by show IntKind.i64.wrap _ = _; rw [IntWalk.i64_in _ ⟨by omega, by omega⟩]; omega
    have HB := hide kp
    have HR := hide kr
    have HT0 := hide hT0
    have HKS := hide (fun (W : World) (hq : Below W0.heap.size W0 W) => (⟨(HB.out.below hq HB.out.lt).cell 0, (HB.out.below hq HB.out.lt).cell 1, (HB.out.below hq HB.out.lt).cell 2, (HB.out.below hq HB.out.lt).cell 3, (HB.out.below hq HB.out.lt).cell 4, (HB.out.below hq HB.out.lt).cell 5, (HB.out.below hq HB.out.lt).cell 6⟩ : W.cell? ⟨w.heap.size, 0, none⟩ = some (.int .i64 S.lx) ∧ W.cell? ⟨w.heap.size, 1, none⟩ = some (.int .i64 S.ly) ∧ W.cell? ⟨w.heap.size, 2, none⟩ = some (.int .i64 S.hx) ∧ W.cell? ⟨w.heap.size, 3, none⟩ = some (.int .i64 S.hy) ∧ W.cell? ⟨w.heap.size, 4, none⟩ = some (.slice RA S.r.length rc) ∧ W.cell? ⟨w.heap.size, 5, none⟩ = some (.slice OA S.o.length oc) ∧ W.cell? ⟨w.heap.size, 6, none⟩ = some (.slice TA S.t.length tc)))
    have HKT := hide (fun (W : World) (hq : Below W0.heap.size W0 W) (x0 x1 x2 x3 x4 x5 x6 : Value) => (⟨((((((((HB.out.below hq HB.out.lt).setv (show w.heap.size ≠ w.heap.size + 1 by omega) 0 x0).setv (show w.heap.size ≠ w.heap.size + 1 by omega) 1 x1).setv (show w.heap.size ≠ w.heap.size + 1 by omega) 2 x2).setv (show w.heap.size ≠ w.heap.size + 1 by omega) 3 x3).setv (show w.heap.size ≠ w.heap.size + 1 by omega) 4 x4).setv (show w.heap.size ≠ w.heap.size + 1 by omega) 5 x5).setv (show w.heap.size ≠ w.heap.size + 1 by omega) 6 x6).cell 0, ((((((((HB.out.below hq HB.out.lt).setv (show w.heap.size ≠ w.heap.size + 1 by omega) 0 x0).setv (show w.heap.size ≠ w.heap.size + 1 by omega) 1 x1).setv (show w.heap.size ≠ w.heap.size + 1 by omega) 2 x2).setv (show w.heap.size ≠ w.heap.size + 1 by omega) 3 x3).setv (show w.heap.size ≠ w.heap.size + 1 by omega) 4 x4).setv (show w.heap.size ≠ w.heap.size + 1 by omega) 5 x5).setv (show w.heap.size ≠ w.heap.size + 1 by omega) 6 x6).cell 1, ((((((((HB.out.below hq HB.out.lt).setv (show w.heap.size ≠ w.heap.size + 1 by omega) 0 x0).setv (show w.heap.size ≠ w.heap.size + 1 by omega) 1 x1).setv (show w.heap.size ≠ w.heap.size + 1 by omega) 2 x2).setv (show w.heap.size ≠ w.heap.size + 1 by omega) 3 x3).setv (show w.heap.size ≠ w.heap.size + 1 by omega) 4 x4).setv (show w.heap.size ≠ w.heap.size + 1 by omega) 5 x5).setv (show w.heap.size ≠ w.heap.size + 1 by omega) 6 x6).cell 2, ((((((((HB.out.below hq HB.out.lt).setv (show w.heap.size ≠ w.heap.size + 1 by omega) 0 x0).setv (show w.heap.size ≠ w.heap.size + 1 by omega) 1 x1).setv (show w.heap.size ≠ w.heap.size + 1 by omega) 2 x2).setv (show w.heap.size ≠ w.heap.size + 1 by omega) 3 x3).setv (show w.heap.size ≠ w.heap.size + 1 by omega) 4 x4).setv (show w.heap.size ≠ w.heap.size + 1 by omega) 5 x5).setv (show w.heap.size ≠ w.heap.size + 1 by omega) 6 x6).cell 3, ((((((((HB.out.below hq HB.out.lt).setv (show w.heap.size ≠ w.heap.size + 1 by omega) 0 x0).setv (show w.heap.size ≠ w.heap.size + 1 by omega) 1 x1).setv (show w.heap.size ≠ w.heap.size + 1 by omega) 2 x2).setv (show w.heap.size ≠ w.heap.size + 1 by omega) 3 x3).setv (show w.heap.size ≠ w.heap.size + 1 by omega) 4 x4).setv (show w.heap.size ≠ w.heap.size + 1 by omega) 5 x5).setv (show w.heap.size ≠ w.heap.size + 1 by omega) 6 x6).cell 4, ((((((((HB.out.below hq HB.out.lt).setv (show w.heap.size ≠ w.heap.size + 1 by omega) 0 x0).setv (show w.heap.size ≠ w.heap.size + 1 by omega) 1 x1).setv (show w.heap.size ≠ w.heap.size + 1 by omega) 2 x2).setv (show w.heap.size ≠ w.heap.size + 1 by omega) 3 x3).setv (show w.heap.size ≠ w.heap.size + 1 by omega) 4 x4).setv (show w.heap.size ≠ w.heap.size + 1 by omega) 5 x5).setv (show w.heap.size ≠ w.heap.size + 1 by omega) 6 x6).cell 5, ((((((((HB.out.below hq HB.out.lt).setv (show w.heap.size ≠ w.heap.size + 1 by omega) 0 x0).setv (show w.heap.size ≠ w.heap.size + 1 by omega) 1 x1).setv (show w.heap.size ≠ w.heap.size + 1 by omega) 2 x2).setv (show w.heap.size ≠ w.heap.size + 1 by omega) 3 x3).setv (show w.heap.size ≠ w.heap.size + 1 by omega) 4 x4).setv (show w.heap.size ≠ w.heap.size + 1 by omega) 5 x5).setv (show w.heap.size ≠ w.heap.size + 1 by omega) 6 x6).cell 6⟩ : (((((((W.setCell ⟨w.heap.size + 1, 0, none⟩ x0).setCell ⟨w.heap.size + 1, 1, none⟩ x1).setCell ⟨w.heap.size + 1, 2, none⟩ x2).setCell ⟨w.heap.size + 1, 3, none⟩ x3).setCell ⟨w.heap.size + 1, 4, none⟩ x4).setCell ⟨w.heap.size + 1, 5, none⟩ x5).setCell ⟨w.heap.size + 1, 6, none⟩ x6).cell? ⟨w.heap.size, 0, none⟩ = some (.int .i64 S.lx) ∧ (((((((W.setCell ⟨w.heap.size + 1, 0, none⟩ x0).setCell ⟨w.heap.size + 1, 1, none⟩ x1).setCell ⟨w.heap.size + 1, 2, none⟩ x2).setCell ⟨w.heap.size + 1, 3, none⟩ x3).setCell ⟨w.heap.size + 1, 4, none⟩ x4).setCell ⟨w.heap.size + 1, 5, none⟩ x5).setCell ⟨w.heap.size + 1, 6, none⟩ x6).cell? ⟨w.heap.size, 1, none⟩ = some (.int .i64 S.ly) ∧ (((((((W.setCell ⟨w.heap.size + 1, 0, none⟩ x0).setCell ⟨w.heap.size + 1, 1, none⟩ x1).setCell ⟨w.heap.size + 1, 2, none⟩ x2).setCell ⟨w.heap.size + 1, 3, none⟩ x3).setCell ⟨w.heap.size + 1, 4, none⟩ x4).setCell ⟨w.heap.size + 1, 5, none⟩ x5).setCell ⟨w.heap.size + 1, 6, none⟩ x6).cell? ⟨w.heap.size, 2, none⟩ = some (.int .i64 S.hx) ∧ (((((((W.setCell ⟨w.heap.size + 1, 0, none⟩ x0).setCell ⟨w.heap.size + 1, 1, none⟩ x1).setCell ⟨w.heap.size + 1, 2, none⟩ x2).setCell ⟨w.heap.size + 1, 3, none⟩ x3).setCell ⟨w.heap.size + 1, 4, none⟩ x4).setCell ⟨w.heap.size + 1, 5, none⟩ x5).setCell ⟨w.heap.size + 1, 6, none⟩ x6).cell? ⟨w.heap.size, 3, none⟩ = some (.int .i64 S.hy) ∧ (((((((W.setCell ⟨w.heap.size + 1, 0, none⟩ x0).setCell ⟨w.heap.size + 1, 1, none⟩ x1).setCell ⟨w.heap.size + 1, 2, none⟩ x2).setCell ⟨w.heap.size + 1, 3, none⟩ x3).setCell ⟨w.heap.size + 1, 4, none⟩ x4).setCell ⟨w.heap.size + 1, 5, none⟩ x5).setCell ⟨w.heap.size + 1, 6, none⟩ x6).cell? ⟨w.heap.size, 4, none⟩ = some (.slice RA S.r.length rc) ∧ (((((((W.setCell ⟨w.heap.size + 1, 0, none⟩ x0).setCell ⟨w.heap.size + 1, 1, none⟩ x1).setCell ⟨w.heap.size + 1, 2, none⟩ x2).setCell ⟨w.heap.size + 1, 3, none⟩ x3).setCell ⟨w.heap.size + 1, 4, none⟩ x4).setCell ⟨w.heap.size + 1, 5, none⟩ x5).setCell ⟨w.heap.size + 1, 6, none⟩ x6).cell? ⟨w.heap.size, 5, none⟩ = some (.slice OA S.o.length oc) ∧ (((((((W.setCell ⟨w.heap.size + 1, 0, none⟩ x0).setCell ⟨w.heap.size + 1, 1, none⟩ x1).setCell ⟨w.heap.size + 1, 2, none⟩ x2).setCell ⟨w.heap.size + 1, 3, none⟩ x3).setCell ⟨w.heap.size + 1, 4, none⟩ x4).setCell ⟨w.heap.size + 1, 5, none⟩ x5).setCell ⟨w.heap.size + 1, 6, none⟩ x6).cell? ⟨w.heap.size, 6, none⟩ = some (.slice TA S.t.length tc)))
    clear kr
    go_enter Try.func9, Try.ntmps9
    go_upto_region 1 with fail
    rw [← hW0]
    clear hW0
    obtain ⟨yp0, yp1, yp2, yp3, yp4, yp5, yp6⟩ := kp.cells7
    clear kp
    go_wp2_with fail
    refine (HH.out _ hT0).mono ?_
    rintro e w1 ⟨rfl, hb1⟩
    clear yp0 yp1 yp2 yp3 yp4 yp5 yp6 HH hT0
    have HS1 := hide hb1
    have hs1 := hb1.size
    clear hb1
    have kp := HB.out.below HS1.out HB.out.lt
    obtain ⟨yp0, yp1, yp2, yp3, yp4, yp5, yp6⟩ := kp.cells7
    clear kp
    go_upto_region 3 with fail
    go_region_held3 (fun w' => w'.cell? ⟨w.heap.size, 0, none⟩ = some (.int .i64 S.lx) ∧ w'.cell? ⟨w.heap.size, 1, none⟩ = some (.int .i64 S.ly) ∧ w'.cell? ⟨w.heap.size, 2, none⟩ = some (.int .i64 S.hx) ∧ w'.cell? ⟨w.heap.size, 3, none⟩ = some (.int .i64 S.hy) ∧ w'.cell? ⟨w.heap.size, 4, none⟩ = some (.slice RA S.r.length rc) ∧ w'.cell? ⟨w.heap.size, 5, none⟩ = some (.slice OA S.o.length oc) ∧ w'.cell? ⟨w.heap.size, 6, none⟩ = some (.slice TA S.t.length tc))
        (first | (with_reducible exact HKT.out _ HS4.out _ _ _ _ _ _ _) | (with_reducible exact HKS.out _ HS4.out) | (with_reducible exact HKS.out _ HS3.out) | (with_reducible exact HKS.out _ HS2.out) | (exact HKS.out _ (HS1.out.drew)) | (with_reducible exact HKS.out _ HS1.out))
        (first
          | (go_at_call 32; have HX := HS3.out; refine (HW.out _ (below_then HT0.out HX) _ _ HRD.out).mono ?_; rintro e u4 ⟨q0, q1, q2, q3, q4, q5, q6, rfl, oq, hb4⟩; obtain ⟨QA, qa, QB, qb, QC, qc, ⟨rfl, rfl, rfl, rfl, rfl, rfl, rfl⟩⟩ := oq.form; have hz4 := hb4.size; have HS4 := hide (below_then HX hb4); clear HX; have kR := HR.out.below HS4.out HR.out.lt; obtain ⟨t0, t1, t2, t3, t4, t5, t6⟩ := kR.cells7; obtain ⟨f0, f1, f2, f3, f4, f5, f6⟩ := kR.frz7)
          | (go_at_call 33; have HX := HS2.out; rw [HI.out]; refine (HDe.out _ _ _ _ _ oR).mono ?_; rintro e u3 ⟨rfl, oD, aD⟩; have hz3 := aD.size; have HRD := hide (own_rd oD.1); have HS3 := hide (HX.trans (aD.below (by omega) (by omega))); clear HX)
          | (go_at_call 34; have HX := HS1.out; refine (HCl.out _ (below_then HT0.out (by first | exact HX | exact HX.drew))).mono ?_; rintro e u2 ⟨v2, rfl, oR, hb2⟩; obtain ⟨g, c, rfl, hg1, hg2⟩ := HSH.out _ _ _ _ oR; have hb2 : Below w1.heap.size w1 u2 := (by first | exact hb2 | exact undrew hb2); have hz2 := hb2.size; have oR : OwnR u2 w1.heap.size u2.heap.size 30 (.slice (some ⟨g, 0, none⟩) S.o.length c) S.o.length os := oR; have HS2 := hide (below_then HX hb2); clear HX))
    have HT := hide (below_then HT0.out HS4.out)
    have hz5 := HS3.out.size
    obtain ⟨r1, r2, r3⟩ := ret_scn (HR.out.below HS4.out HR.out.lt) oq HT.out (by omega) (by omega) (Nat.le_refl _) (.inl (by omega))
    go_wp2_with fail
    refine bodyPost_ret (results_cell_tmp rfl _ _ (w.heap.size + 1) _ #[.int .i64 Z.lx, .int .i64 Z.ly, .int .i64 Z.hx, .int .i64 Z.hy, .slice QA Z.r.length qa, .slice QB Z.o.length qb, .slice QC Z.t.length qc] (0, 0) _ rfl r1 Try.underlying33 rfl Try.sizeScn) rfl ?_
    exact ⟨_, _, _, _, _, _, _, rfl, r2, r3⟩
end Go.Proofs.Ytocllmaikngoaaa
