/-
  The program's scenes: contracts (3): withObstacles.
-/
import Derived.Test.YtocllmaikngoaaaSC
import Derived.Test.YtocllmaikngoaaaScnI
namespace Go.Proofs.Ytocllmaikngoaaa
open Go.RowKit
set_option linter.unusedVariables false
set_option maxRecDepth 100000 in
set_option maxHeartbeats 6400000 in
theorem impl_scnWith (w : World) (B : Nat) (hB : B ≤ w.heap.size) {v0 v1 v2 v3 v4 v5 v6 : Value} {S : Scn} (h : SIn w B v0 v1 v2 v3 v4 v5 v6 S) (NA : Option Addr) (nn nc : Nat) (ns : List Sl) (R : RdS w B NA nn ns) :
    Calls Try.prog 32 #[.agg #[v0, v1, v2, v3, v4, v5, v6], .slice NA nn nc] w fun e w' => SResB 30 29 w w' e (chgS S (cont ns)) (chgB S (cont ns)) := by
  have h' := h
  obtain ⟨RA, rc, OA, oc, TA, tc, os, ⟨rfl, rfl, rfl, rfl, rfl, rfl, rfl⟩, hR, ⟨hO, hc⟩, hT, hwf⟩ := h
  have hnl : nn = (withO S (cont ns)).o.length := by show nn = (cont ns).length; rw [cont_len, R.1]
  have hN : SIn w B (.int .i64 S.lx) (.int .i64 S.ly) (.int .i64 S.hx) (.int .i64 S.hy) (.slice RA S.r.length rc) (.slice NA nn nc) (.slice TA S.t.length tc) (withO S (cont ns)) :=
    ⟨RA, rc, NA, nc, TA, tc, ns, ⟨rfl, rfl, rfl, rfl, rfl, by rw [hnl], rfl⟩, hR, ⟨by rw [← hnl]; exact R, rfl⟩, hT, hwf⟩
  clear hR hO hT hwf hc R hnl
  have V1 := hide (fun (W : World) (hb : Below w.heap.size w W) => impl_IsValidScene W B (Nat.le_trans hB hb.size) (h'.below (hb.mono hB)))
  have V2 := hide (fun (W : World) (hb : Below w.heap.size w W) => impl_IsValidScene W B (Nat.le_trans hB hb.size) (hN.below (hb.mono hB)))
  have C1 := hide (fun (W : World) (hb : Below w.heap.size w W) => impl_scnCopied W B (Nat.le_trans hB hb.size) (h'.below (hb.mono hB)))
  have C2 := hide (fun (W : World) (hb : Below w.heap.size w W) => impl_scnCopied W B (Nat.le_trans hB hb.size) (hN.below (hb.mono hB)))
  clear h' hN
  have e1 : (withO S (cont ns)).r.length = S.r.length := rfl
  have e2 : (withO S (cont ns)).t.length = S.t.length := rfl
  unfold SRes at C1 C2
  obtain ⟨W0, hW0⟩ : ∃ W0, W0 = (w.alloc (.cells #[.int .i64 S.lx, .int .i64 S.ly, .int .i64 S.hx, .int .i64 S.hy, .slice RA S.r.length rc, .slice OA S.o.length oc, .slice TA S.t.length tc] 33)).alloc (.cells #[.int .i64 0, .int .i64 0, .int .i64 0, .int .i64 0, .slice none 0 0, .slice none 0 0, .slice none 0 0] 33) := ⟨_, rfl⟩
  have hT0 : Below w.heap.size w W0 := by rw [hW0]; exact below_alloc (below_new _ _) _
  have kp : Box W0 w.heap.size 33 #[.int .i64 S.lx, .int .i64 S.ly, .int .i64 S.hx, .int .i64 S.hy, .slice RA S.r.length rc, .slice OA S.o.length oc, .slice TA S.t.length tc] := by rw [hW0]; exact (Box.last _ _ _ rfl).alloc _
  have kr : Box W0 (w.heap.size + 1) 33 #[.int .i64 0, .int .i64 0, .int .i64 0, .int .i64 0, .slice none 0 0, .slice none 0 0, .slice none 0 0] := by rw [hW0]; exact Box.last _ _ _ (alloc_size _ _).symm
  have hq0 : W0.heap.size = w.heap.size + 2 := by rw [hW0, alloc_size, alloc_size]
  obtain ⟨W1, hW1⟩ : ∃ W1, W1 = W0.alloc (.cells #[.int .i64 S.lx, .int .i64 S.ly, .int .i64 S.hx, .int .i64 S.hy, .slice RA S.r.length rc, .slice OA S.o.length oc, .slice TA S.t.length tc] 33) := ⟨_, rfl⟩
  have hb1 : Below W0.heap.size W0 W1 := by rw [hW1]; exact below_new _ _
  have hq1 : W0.heap.size < W1.heap.size := by rw [hW1, alloc_size]; omega
  have kp1 := kp.below hb1 kp.lt
  have kr1 := kr.below hb1 kr.lt
  have kn1 : Box W1 W0.heap.size 33 #[.int .i64 S.lx, .int .i64 S.ly, .int .i64 S.hx, .int .i64 S.hy, .slice RA S.r.length rc, .slice OA S.o.length oc, .slice TA S.t.length tc] := by rw [hW1]; exact Box.last _ _ _ rfl
  have hT1 := below_then hT0 hb1
  obtain ⟨W2, hW2⟩ : ∃ W2, W2 = W1.setCell ⟨W0.heap.size, 5, none⟩ (.slice NA nn nc) := ⟨_, rfl⟩
  have ha2 : Aside W0.heap.size (W0.heap.size + 1) W1 W2 := by rw [hW2]; exact (Aside.refl _).setCell (a := ⟨W0.heap.size, 5, none⟩) (Nat.le_refl _) (Nat.lt_succ_self _) _
  have kn2 : Box W2 W0.heap.size 33 #[.int .i64 S.lx, .int .i64 S.ly, .int .i64 S.hx, .int .i64 S.hy, .slice RA S.r.length rc, .slice NA nn nc, .slice TA S.t.length tc] := by rw [hW2]; exact kn1.set 5 _
  have kp2 := kp1.aside ha2 (by omega)
  have kr2 := kr1.aside ha2 (by omega)
  have hT2 := hT1.trans (ha2.below (by omega) (by omega))
  obtain ⟨b1, hb1'⟩ : ∃ b, b = scnB S := ⟨_, rfl⟩
  obtain ⟨b2, hb2'⟩ : ∃ b, b = scnB (withO S (cont ns)) := ⟨_, rfl⟩
  rw [← hb1'] at V1
  rw [← hb2'] at V2
  have HC : Hid (chgB S (cont ns) = (b1 && b2) ∧ chgS S (cont ns) = if (b1 && b2) then withO S (cont ns) else S) := by
    have e : chgB S (cont ns) = (b1 && b2) := by unfold chgB; rw [hb1', hb2']
    refine ⟨e, ?_⟩
    unfold chgS; rw [e]
  rw [HC.out.1, HC.out.2]
  clear HC hb1' hb2'
  obtain ⟨yp0, yp1, yp2, yp3, yp4, yp5, yp6⟩ := kp.cells7
  obtain ⟨yn0, yn1, yn2, yn3, yn4, yn5, yn6⟩ := kn1.cells7
  obtain ⟨zn0, zn1, zn2, zn3, zn4, zn5, zn6⟩ := kn1.frz7
  have HE := hide hq0
  clear hq0
  go_enter Try.func32, Try.ntmps32
  go_upto_region 1 with fail
  rw [← hW0]
  clear hW0
  go_upto_region 2 with fail
  rw [← hW1]
  clear hW1
  go_upto_region 3 with fail
  rw [← hW2]
  clear hW2 yp0 yp1 yp2 yp3 yp4 yp5 yp6 yn0 yn1 yn2 yn3 yn4 yn5 yn6 zn0 zn1 zn2 zn3 zn4 zn5 zn6 kn1 kp1 kr1 kp kr hT0 hT1 hb1
  have hq0 := HE.out
  clear HE
  have hs2 := ha2.size
  clear ha2
  have kp := kp2
  have kn := kn2
  have kr := kr2
  clear kp2 kn2 kr2
  have hg0 : W0.heap.size ≤ w.heap.size + 2 := by omega
  have hg1 : w.heap.size + 2 ≤ W0.heap.size := by omega
  clear hq0
  cases b1 with
  | false =>
    obtain ⟨yp0, yp1, yp2, yp3, yp4, yp5, yp6⟩ := kp.cells7
    obtain ⟨yn0, yn1, yn2, yn3, yn4, yn5, yn6⟩ := kn.cells7
    go_wp2_with fail
    refine (V1.out _ hT2).mono ?_
    rintro e w3 ⟨rfl, hb3⟩
    clear yp0 yp1 yp2 yp3 yp4 yp5 yp6 yn0 yn1 yn2 yn3 yn4 yn5 yn6
    have hT3 := below_then hT2 hb3
    have hs3 := hb3.size
    have kp := kp.below hb3 kp.lt
    have kn := kn.below hb3 kn.lt
    have kr := kr.below hb3 kr.lt
    clear hb3 hT2
    obtain ⟨yp0, yp1, yp2, yp3, yp4, yp5, yp6⟩ := kp.cells7
    obtain ⟨yn0, yn1, yn2, yn3, yn4, yn5, yn6⟩ := kn.cells7
    go_wp2_with fail
    refine (C1.out _ hT3).mono ?_
    rintro e w4 ⟨q0, q1, q2, q3, q4, q5, q6, rfl, oq, hb4⟩
    obtain ⟨QA, qa, QB, qb, QC, qc, ⟨rfl, rfl, rfl, rfl, rfl, rfl, rfl⟩⟩ := oq.form
    clear yp0 yp1 yp2 yp3 yp4 yp5 yp6 yn0 yn1 yn2 yn3 yn4 yn5 yn6
    have hT4 := below_then hT3 hb4
    have hs4 := hb4.size
    have HKR := hide (kr.below hb4 kr.lt)
    obtain ⟨yr0, yr1, yr2, yr3, yr4, yr5, yr6⟩ := HKR.out.cells7
    obtain ⟨zr0, zr1, zr2, zr3, zr4, zr5, zr6⟩ := HKR.out.frz7
    have HOQ := hide oq
    have HTQ := hide hT4
    clear kp kn kr oq hT4 hb4
    go_wp2_with fail
    obtain ⟨r1, r2, r3⟩ := ret_scn HKR.out HOQ.out HTQ.out (by omega) (by omega) (Nat.le_refl _) (.inl (by omega))
    refine bodyPost_ret (results_cell_tmp rfl _ _ (w.heap.size + 1) _ #[.int .i64 S.lx, .int .i64 S.ly, .int .i64 S.hx, .int .i64 S.hy, .slice QA S.r.length qa, .slice QB S.o.length qb, .slice QC S.t.length qc] (0, 0) _ rfl r1 Try.underlying33 rfl Try.sizeScn) rfl ?_
    exact ⟨_, _, _, _, _, _, _, rfl, r2, r3⟩
  | true =>
  cases b2 with
  | false =>
    obtain ⟨yp0, yp1, yp2, yp3, yp4, yp5, yp6⟩ := kp.cells7
    obtain ⟨yn0, yn1, yn2, yn3, yn4, yn5, yn6⟩ := kn.cells7
    go_wp2_with fail
    refine (V1.out _ hT2).mono ?_
    rintro e w3 ⟨rfl, hb3⟩
    clear yp0 yp1 yp2 yp3 yp4 yp5 yp6 yn0 yn1 yn2 yn3 yn4 yn5 yn6
    have hT3 := below_then hT2 hb3
    have hs3 := hb3.size
    have kp := kp.below hb3 kp.lt
    have kn := kn.below hb3 kn.lt
    have kr := kr.below hb3 kr.lt
    clear hb3 hT2
    obtain ⟨yp0, yp1, yp2, yp3, yp4, yp5, yp6⟩ := kp.cells7
    obtain ⟨yn0, yn1, yn2, yn3, yn4, yn5, yn6⟩ := kn.cells7
    go_wp2_with fail
    refine (V2.out _ hT3).mono ?_
    rintro e w4 ⟨rfl, hb4⟩
    clear yp0 yp1 yp2 yp3 yp4 yp5 yp6 yn0 yn1 yn2 yn3 yn4 yn5 yn6
    have hT4 := below_then hT3 hb4
    have hs4 := hb4.size
    have kp := kp.below hb4 kp.lt
    have kn := kn.below hb4 kn.lt
    have kr := kr.below hb4 kr.lt
    clear hb4 hT3
    obtain ⟨yp0, yp1, yp2, yp3, yp4, yp5, yp6⟩ := kp.cells7
    obtain ⟨yn0, yn1, yn2, yn3, yn4, yn5, yn6⟩ := kn.cells7
    go_wp2_with fail
    refine (C1.out _ hT4).mono ?_
    rintro e w5 ⟨q0, q1, q2, q3, q4, q5, q6, rfl, oq, hb5⟩
    obtain ⟨QA, qa, QB, qb, QC, qc, ⟨rfl, rfl, rfl, rfl, rfl, rfl, rfl⟩⟩ := oq.form
    clear yp0 yp1 yp2 yp3 yp4 yp5 yp6 yn0 yn1 yn2 yn3 yn4 yn5 yn6
    have hT5 := below_then hT4 hb5
    have hs5 := hb5.size
    have HKR := hide (kr.below hb5 kr.lt)
    obtain ⟨yr0, yr1, yr2, yr3, yr4, yr5, yr6⟩ := HKR.out.cells7
    obtain ⟨zr0, zr1, zr2, zr3, zr4, zr5, zr6⟩ := HKR.out.frz7
    have HOQ := hide oq
    have HTQ := hide hT5
    clear kp kn kr oq hT5 hb5
    go_wp2_with fail
    obtain ⟨r1, r2, r3⟩ := ret_scn HKR.out HOQ.out HTQ.out (by omega) (by omega) (Nat.le_refl _) (.inl (by omega))
    refine bodyPost_ret (results_cell_tmp rfl _ _ (w.heap.size + 1) _ #[.int .i64 S.lx, .int .i64 S.ly, .int .i64 S.hx, .int .i64 S.hy, .slice QA S.r.length qa, .slice QB S.o.length qb, .slice QC S.t.length qc] (0, 0) _ rfl r1 Try.underlying33 rfl Try.sizeScn) rfl ?_
    exact ⟨_, _, _, _, _, _, _, rfl, r2, r3⟩
  | true =>
    obtain ⟨yp0, yp1, yp2, yp3, yp4, yp5, yp6⟩ := kp.cells7
    obtain ⟨yn0, yn1, yn2, yn3, yn4, yn5, yn6⟩ := kn.cells7
    go_wp2_with fail
    refine (V1.out _ hT2).mono ?_
    rintro e w3 ⟨rfl, hb3⟩
    clear yp0 yp1 yp2 yp3 yp4 yp5 yp6 yn0 yn1 yn2 yn3 yn4 yn5 yn6
    have hT3 := below_then hT2 hb3
    have hs3 := hb3.size
    have kp := kp.below hb3 kp.lt
    have kn := kn.below hb3 kn.lt
    have kr := kr.below hb3 kr.lt
    clear hb3 hT2
    obtain ⟨yp0, yp1, yp2, yp3, yp4, yp5, yp6⟩ := kp.cells7
    obtain ⟨yn0, yn1, yn2, yn3, yn4, yn5, yn6⟩ := kn.cells7
    go_wp2_with fail
    refine (V2.out _ hT3).mono ?_
    rintro e w4 ⟨rfl, hb4⟩
    clear yp0 yp1 yp2 yp3 yp4 yp5 yp6 yn0 yn1 yn2 yn3 yn4 yn5 yn6
    have hT4 := below_then hT3 hb4
    have hs4 := hb4.size
    have kp := kp.below hb4 kp.lt
    have kn := kn.below hb4 kn.lt
    have kr := kr.below hb4 kr.lt
    clear hb4 hT3
    obtain ⟨yp0, yp1, yp2, yp3, yp4, yp5, yp6⟩ := kp.cells7
    obtain ⟨yn0, yn1, yn2, yn3, yn4, yn5, yn6⟩ := kn.cells7
    go_wp2_with fail
    refine (C2.out _ hT4).mono ?_
    rintro e w5 ⟨q0, q1, q2, q3, q4, q5, q6, rfl, oq, hb5⟩
    obtain ⟨QA, qa, QB, qb, QC, qc, ⟨rfl, rfl, rfl, rfl, rfl, rfl, rfl⟩⟩ := oq.form
    clear yp0 yp1 yp2 yp3 yp4 yp5 yp6 yn0 yn1 yn2 yn3 yn4 yn5 yn6
    have hT5 := below_then hT4 hb5
    have hs5 := hb5.size
    have HKR := hide (kr.below hb5 kr.lt)
    obtain ⟨yr0, yr1, yr2, yr3, yr4, yr5, yr6⟩ := HKR.out.cells7
    obtain ⟨zr0, zr1, zr2, zr3, zr4, zr5, zr6⟩ := HKR.out.frz7
    have HOQ := hide oq
    have HTQ := hide hT5
    clear kp kn kr oq hT5 hb5
    go_wp2_with fail
    obtain ⟨r1, r2, r3⟩ := ret_scn HKR.out HOQ.out HTQ.out (by omega) (by omega) (Nat.le_refl _) (.inl (by omega))
    refine bodyPost_ret (results_cell_tmp rfl _ _ (w.heap.size + 1) _ #[.int .i64 (withO S (cont ns)).lx, .int .i64 (withO S (cont ns)).ly, .int .i64 (withO S (cont ns)).hx, .int .i64 (withO S (cont ns)).hy, .slice QA (withO S (cont ns)).r.length qa, .slice QB (withO S (cont ns)).o.length qb, .slice QC (withO S (cont ns)).t.length qc] (0, 0) _ rfl r1 Try.underlying33 rfl Try.sizeScn) rfl ?_
    exact ⟨_, _, _, _, _, _, _, rfl, r2, r3⟩
end Go.Proofs.Ytocllmaikngoaaa
