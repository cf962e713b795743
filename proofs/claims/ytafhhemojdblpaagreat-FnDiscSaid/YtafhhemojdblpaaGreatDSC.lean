/-
  The texts DscI, DrawN, put together; each has its own heading below. No condition of ours.
-/
import Derived.Test.YtafhhemojdblpaaGreatDZ
import Derived.Test.YtafhhemojdblpaaGreatPD
import Derived.Deep.RegionHeld3
import Derived.Sort.AtCall
import Derived.Test.YtafhhemojdblpaaGreatDA
/-
  The program's discs: DiscTouches.
-/




namespace Go.Proofs.YtafhhemojdblpaaGreat
open Go.RowKit
set_option linter.unusedVariables false
theorem intQ_ok {n : Int} (h : n.natAbs ≤ 1000) : ratQ (intQ n) = true ∧ rv (intQ n) = (n : Rat) := ⟨(intQ_V n h).ok, (intQ_V n h).rv⟩
/-- a polygon's first corner lies in it -/
theorem corner_disc {l : List V2} (hl : polyP l) (hs : ∀ v ∈ l, smallV v) :
    SmallP (vecP (atV l 0).1 (atV l 0).2) (scP (vecP (atV l 0).1 (atV l 0).2)) ∧ toP l (vecP (atV l 0).1 (atV l 0).2) (scP (vecP (atV l 0).1 (atV l 0).2)) = intQ 0 := by
  have h3 := hl.1
  have hv : smallV (atV l 0) := hs _ (at_mem (by omega))
  obtain ⟨ho, hr⟩ := vec_rp hv.vec
  obtain ⟨b1, b2⟩ := hv
  have e1 : rv (vecP (atV l 0).1 (atV l 0).2).1 = ((atV l 0).1 : Rat) := congrArg Prod.fst hr
  have e2 : rv (vecP (atV l 0).1 (atV l 0).2).2 = ((atV l 0).2 : Rat) := congrArg Prod.snd hr
  refine ⟨small_of ho (x := (atV l 0).1) (y := (atV l 0).2) (d := 1) (e := 1) ⟨by omega, by omega⟩ ⟨by omega, by omega⟩ (by omega) (by omega) (by rw [e1]; grind) (by rw [e2]; grind), ?_⟩
  have hc := poly_conv hl
  have hi : 0 ≤ contS l (scP (vecP (atV l 0).1 (atV l 0).2)) := (cont_iff hl ho).2 (by rw [hr]; exact hc.on (i := 0) (by omega) (OnQ.left (fl_ l 0) _))
  unfold toP
  rw [if_pos hi]
/-- what the law of discs asks -/
theorem disc_all {P : PQ} {l : List V2} (hp : DrawP P) (hl : polyP l) (hs : ∀ v ∈ l, smallV v) :
    ratQ (toP l P (scP P)) = true ∧ cmpQ (intQ 0) (intQ 0) ≤ 0 ∧ ratQ (intQ 0) = true ∧ ∀ n : Int, 0 ≤ n → n ≤ 60 → cmpQ (toP l P (scP P)) (intQ n) ≤ 0 → cmpQ (toP l P (scP P)) (intQ (n + 1)) ≤ 0 := by
  obtain ⟨p1, p2⟩ := hp.V
  have G := toP_V hl hs hp.ok (p1.mono (by omega)) (p2.mono (by omega))
  have z := intQ_ok (n := 0) (by decide)
  refine ⟨G.1, (cmpQ_le z.1 z.1).2 Rat.le_refl, z.1, fun n h0 h1 h => ?_⟩
  have a := intQ_ok (n := n) (by omega)
  have b := intQ_ok (n := n + 1) (by omega)
  rw [cmpQ_le G.1 a.1, a.2] at h
  rw [cmpQ_le G.1 b.1, b.2]
  have : ((n + 1 : Int) : Rat) = (n : Rat) + 1 := by rw [Rat.intCast_add]; rfl
  rw [this]
  grind
set_option maxRecDepth 100000 in
set_option maxHeartbeats 3200000 in
theorem impl_DiscTouches (w : World) (B : Nat) (hB : B ≤ w.heap.size) (A : Option Addr) (n c : Nat) (l : List V2) (R : RdV w B A n l) (hpl : polyP l) {p0 p1 p2 p3 p4 p5 : Value} {P : PQ} (hp : PIn w B p0 p1 p2 p3 p4 p5 P) {T : Int × Int × Int} (sp : SmallP P T) (hT : ratQ (toP l P T) = true) (m : Int) (hm : m.natAbs ≤ 1000) :
    Calls Tryz.prog 21 #[.slice A n c, .agg #[p0, p1, p2, p3, p4, p5], .int .i64 m] w fun e w' => e = .returned (.bool (decide (cmpQ (toP l P T) (intQ m) ≤ 0))) ∧ Below w.heap.size w w' := by
  have hfit := toP_fit l P T
  have him := intQ_ok hm
  obtain ⟨X, hX⟩ : ∃ X, cmpQ (toP l P T) (intQ m) = X := ⟨_, rfl⟩
  rw [hX]
  have HX0 : Hid (ratQ (toP l P T) = true ∧ ratQ (intQ m) = true ∧ cmpQ (toP l P T) (intQ m) = X) := ⟨hT, him.1, hX⟩
  have HT1 := hide hT
  clear hX him hT
  obtain ⟨pb, pA, pn, pc, pD, pm, pk, pyb, pyA, pyn, pyc, pyD, pym, pyk, rfl, rfl, rfl, rfl, rfl, rfl⟩ := hp.cut
  obtain ⟨W0, hW0⟩ : ∃ W0, W0 = (w.alloc (.cells #[.bool pb, .slice pA pn pc, .slice pD pm pk, .bool pyb, .slice pyA pyn pyc, .slice pyD pym pyk] 29)) := ⟨_, rfl⟩
  have hT0 : Below w.heap.size w W0 := by rw [hW0]; exact below_new _ _
  have kp : Box W0 (w.heap.size) 29 #[.bool pb, .slice pA pn pc, .slice pD pm pk, .bool pyb, .slice pyA pyn pyc, .slice pyD pym pyk] := by rw [hW0]; exact Box.last _ _ _ rfl
  have hs0 : W0.heap.size = w.heap.size + 1 := by rw [hW0, alloc_size]
  go_enter Tryz.func21, Tryz.ntmps21
  go_upto_region 1 with fail
  rw [← hW0]
  clear hW0
  have hp := hp.below (hT0.mono hB)
  have R := R.below (hT0.mono hB)
  have HC := hide (impl_SquareToPolygon W0 B (by omega) A n c l R hpl hp sp)
  generalize toP l P T = TT at *
  clear hp R sp
  obtain ⟨yp0, yp1, yp2, yp3, yp4, yp5⟩ := kp.cells6
  go_wp2_with fail
  refine (HC.out).mono ?_
  rintro e w1 ⟨d0, d1, d2, rfl, od, hb1⟩
  clear yp0 yp1 yp2 yp3 yp4 yp5
  obtain ⟨db, dA, dn, dc, dD, dm, dk, rfl, rfl, rfl⟩ := od.cut
  have hs1 := hb1.size
  have hT1 := below_then hT0 hb1
  have kp := kp.below hb1 kp.lt
  clear hT0
  clear hb1
  clear HC
  obtain ⟨w2, hw2⟩ : ∃ xw, xw = (w1.alloc (.cells #[.bool db, .slice dA dn dc, .slice dD dm dk] 27)) := ⟨_, rfl⟩
  have hb2 : Below w1.heap.size w1 w2 := by rw [hw2]; exact below_new _ _
  have hq2 : w2.heap.size = w1.heap.size + 1 := by rw [hw2, alloc_size]
  have kd : Box w2 (w1.heap.size) 27 #[.bool db, .slice dA dn dc, .slice dD dm dk] := by rw [hw2]; exact Box.last _ _ _ (by omega)
  have hs2 := hb2.size
  have hT2 := below_then hT1 hb2
  have kp := kp.below hb2 kp.lt
  have od := od.below hb2 (by omega)
  clear hT1
  go_upto_region 2 with fail
  rw [← hw2]
  clear hw2 hb2
  clear kp
  have HQd := hide (fun (W : World) (h : Below w2.heap.size w2 W) => ((od.in_ hfit (show _ ≤ w2.heap.size by omega)).below h).wider h.size)
  have hmw : (Lit.int .i64 m).wf = true := WalkArith.wf_i64 ⟨by omega, by omega⟩
  clear od
  have Ehs0 := hide hs0
  clear hs0
  have Ehq2 := hide hq2
  clear hq2
  have HBd := hide kd
  have HS0 : Hid (Below w2.heap.size w2 w2.drew) := (Below.refl _ _).drew
  have HKS := hide (fun (W : World) (hq : Below w2.heap.size w2 W) => (⟨(HBd.out.below hq HBd.out.lt).cell 0, (HBd.out.below hq HBd.out.lt).cell 1, (HBd.out.below hq HBd.out.lt).cell 2⟩ : W.cell? ⟨w1.heap.size, 0, none⟩ = some (.bool db) ∧ W.cell? ⟨w1.heap.size, 1, none⟩ = some (.slice dA dn dc) ∧ W.cell? ⟨w1.heap.size, 2, none⟩ = some (.slice dD dm dk)))
  obtain ⟨yd0, yd1, yd2⟩ := kd.cells3
  go_region_held3 (fun w' => w'.cell? ⟨w1.heap.size, 0, none⟩ = some (.bool db) ∧ w'.cell? ⟨w1.heap.size, 1, none⟩ = some (.slice dA dn dc) ∧ w'.cell? ⟨w1.heap.size, 2, none⟩ = some (.slice dD dm dk))
      (first | (with_reducible exact HKS.out _ HS3.out) | (with_reducible exact HKS.out _ HS2.out) | (with_reducible exact HKS.out _ HS1.out) | (with_reducible exact HKS.out _ HS0.out))
      (first
        | (go_at_call 11; have HX := HS2.out; refine (cmp_is _ _ (Nat.le_refl _) (HQd.out _ HS2.out) qz HX0.out).mono ?_; rintro e u3 ⟨rfl, hb3⟩; have qz := qz.up hb3; have oz := oz.below hb3 (by omega); have hz3 : u2.heap.size ≤ u3.heap.size := hb3.size; have HS3 := hide (below_then HX hb3); clear HX)
        | (go_at_call 22; have HX := HS1.out; refine (impl_intQ _ m hmw).mono ?_; rintro e u2 ⟨z0, z1, z2, rfl, oz, hb2⟩; obtain ⟨zb, zA, zn, zc, zD, zm, zk, rfl, rfl, rfl⟩ := oz.cut; have oz : QOwn u2 u1.heap.size u2.heap.size 3 (.bool zb) (.slice zA zn zc) (.slice zD zm zk) (intQ m) := oz; have qz := oz.in_ (intQ_fit _) (Nat.le_refl _); have hz2 : u1.heap.size ≤ u2.heap.size := hb2.size; have HS2 := hide (below_then HX hb2); clear HX)
        | (go_at_call 10; have HX := HS0.out; refine (ok_true _ _ (Nat.le_refl _) (HQd.out _ HS0.out) HT1.out).mono ?_; rintro e u1 ⟨rfl, hb1⟩; have hz1 : w2.heap.size ≤ u1.heap.size := hb1.size; have HS1 := hide (below_then HX hb1); clear HX))
  all_goals
    go_wp2_with fail
    go_ret
    exact ⟨rfl, below_then hT2 HS3.out⟩
end Go.Proofs.YtafhhemojdblpaaGreat

/-
  A drawn number: its bounds.
-/

namespace Go.Proofs.YtafhhemojdblpaaGreat
open Go.RowKit
set_option linter.unusedVariables false
set_option maxHeartbeats 400000 in
theorem MakeNum_k (n c B k : Nat) (A : Option Addr) (w : World) (hk : k ≤ 1000) (hn : n ≤ 1099511627776) (hb : Bytes w B A n) (hB : B ≤ w.heap.size) :
    Calls Tryz.prog 20 #[.slice A n c, .int .i64 k] w fun e w' => ∃ r : Int, e = .returned (.int .i64 r) ∧ 0 ≤ r ∧ r ≤ 65535 ∧ Below w.heap.size w w' := by
  go_enter Tryz.func20, Tryz.ntmps20
  go_wp2_with fail
  refine (l31New_any n c B k A w hn (by omega) hb hB).mono ?_
  rintro e w1 ⟨rfl, hc1, hb1, hs1⟩
  have HS := hide hs1
  clear hs1
  go_wp2_with fail
  refine (l01Byte_any w.heap.size n c A B w1 (by omega) hc1 (hb.below (hb1.mono hB)) hB).mono ?_
  rintro e w2 ⟨r1, rfl, h10, h11, hc2, ho1⟩
  have hb2 := hb1.trans (ho1.below (Nat.le_refl w.heap.size) (by have := HS.out; omega))
  go_wp2_with fail
  refine (l01Byte_any w.heap.size n c A B w2 (by omega) hc2 (hb.below (hb2.mono hB)) hB).mono ?_
  rintro e w3 ⟨r2, rfl, h20, h21, hc3, ho2⟩
  have hb3 := hb2.trans (ho2.below (Nat.le_refl w.heap.size) hb2.size)
  go_wp2_with fail
  go_ret
  exact ⟨_, rfl, by omega, by omega, hb3⟩
end Go.Proofs.YtafhhemojdblpaaGreat
