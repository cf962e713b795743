/-
  The program's segments: lineMeets, meets.
-/
import Derived.Test.YtafhhemojdblpaaGreatSegB
import Derived.Deep.RegionHeld3
import Derived.Deep.CutRange
import Derived.Sort.AtCall
namespace Go.Proofs.YtafhhemojdblpaaGreat
open Go.RowKit
set_option linter.unusedVariables false
theorem COwn.set6 {w:World} {lo hi g:Nat} {E:TypeId} {c0 c1 c2 c3 c4 c5 x0 x1 x2 x3 x4 x5:Value} {T:Int × Int × Int} (h:COwn w lo hi E c0 c1 c2 c3 c4 c5 T) (hg:g < lo ∨ hi≤g):COwn ((((((w.setCell ⟨g,0,none⟩ x0).setCell ⟨g,1,none⟩ x1).setCell ⟨g,2,none⟩ x2).setCell ⟨g,3,none⟩ x3).setCell ⟨g,4,none⟩ x4).setCell ⟨g,5,none⟩ x5) lo hi E c0 c1 c2 c3 c4 c5 T :=
 (((((h.setv hg 0 _).setv hg 1 _).setv hg 2 _).setv hg 3 _).setv hg 4 _).setv hg 5 _
/-- two variables that hold scaled points -/
def TwoC (w wx:World) (sx sy:Value) (TC:TypeId) (T U:Int × Int × Int):Prop :=
 ∃ g h c0 c1 c2 c3 c4 c5 d0 d1 d2 d3 d4 d5,sx=.pointer (some ⟨g,0,none⟩)∧sy=.pointer (some ⟨h,0,none⟩)∧Box wx g TC #[c0,c1,c2,c3,c4,c5]∧Box wx h TC #[d0,d1,d2,d3,d4,d5]∧CIn wx wx.heap.size c0 c1 c2 c3 c4 c5 T∧CIn wx wx.heap.size d0 d1 d2 d3 d4 d5 U∧w.heap.size≤g∧w.heap.size≤h∧Below w.heap.size w wx
def sgC (T U V:Int × Int × Int):Int:=cmpV (crossS T U V) 0
def lineB (S T:PQ × PQ):Bool:=decide (sgC (scP S.1) (scP S.2) (scP T.1) * sgC (scP S.1) (scP S.2) (scP T.2)≤0)
theorem sgC_range (T U V:Int × Int × Int):-1≤sgC T U V∧sgC T U V≤1:=by unfold sgC cmpV;split <;> (try split) <;> omega
theorem sg_wrap (T U V W:Int × Int × Int):IntKind.i64.wrap (sgC T U V * sgC T U W)=sgC T U V * sgC T U W:=by
 have h1:=sgC_range T U V
 have h2:=sgC_range T U W
 generalize sgC T U V=x at *
 generalize sgC T U W=y at *
 refine IntWalk.i64_in _ ?_
 rcases (show x = -1 ∨ x=0 ∨ x=1 by omega) with rfl | rfl | rfl <;> omega
theorem scP_v {P:PQ} (h:ratQ P.1=true∧ratQ P.2=true):SzC (scP P):=scP_sz h.1 h.2
set_option maxRecDepth 100000 in
set_option maxHeartbeats 6000000 in
theorem impl_lineMeets (w:World) (B:Nat) (hB:B≤w.heap.size) {p0 p1 p2 p3 p4 p5 p6 p7 p8 p9 p10 p11:Value} {pZ:PQ × PQ} (hp:GIn w B p0 p1 p2 p3 p4 p5 p6 p7 p8 p9 p10 p11 pZ) {q0 q1 q2 q3 q4 q5 q6 q7 q8 q9 q10 q11:Value} {qZ:PQ × PQ} (hq:GIn w B q0 q1 q2 q3 q4 q5 q6 q7 q8 q9 q10 q11 qZ) (zp:validG pZ) (zq:validG qZ) :
 Calls Tryz.prog 81 #[.agg #[p0,p1,p2,p3,p4,p5,p6,p7,p8,p9,p10,p11],.agg #[q0,q1,q2,q3,q4,q5,q6,q7,q8,q9,q10,q11]] w fun e w'=>e=.returned (.bool (lineB pZ qZ))∧Below w.heap.size w w':=by
 have E1:=hide (show lineB pZ qZ=decide (sgC (scP pZ.1) (scP pZ.2) (scP qZ.1) * sgC (scP pZ.1) (scP pZ.2) (scP qZ.2)≤0) from rfl)
 generalize lineB pZ qZ=RB at E1 ⊢
 have R1:=sgC_range (scP pZ.1) (scP pZ.2) (scP qZ.1)
 have R2:=sgC_range (scP pZ.1) (scP pZ.2) (scP qZ.2)
 obtain ⟨c1,hc1⟩:∃ c,c=sgC (scP pZ.1) (scP pZ.2) (scP qZ.1):=⟨_,rfl⟩
 obtain ⟨c2,hc2⟩:∃ c,c=sgC (scP pZ.1) (scP pZ.2) (scP qZ.2):=⟨_,rfl⟩
 rw [←hc1] at R1
 rw [←hc2] at R2
 rw [←hc1,←hc2] at E1
 have C1:=hide hc1
 have C2:=hide hc2
 clear hc1 hc2
 have S1:=hide (show SzC (scP pZ.1) from scP_v zp.1)
 have S2:=hide (show SzC (scP pZ.2) from scP_v zp.2)
 have S3:=hide (show SzC (scP qZ.1) from scP_v zq.1)
 have S4:=hide (show SzC (scP qZ.2) from scP_v zq.2)
 obtain ⟨W0,hW0⟩:∃ W0,W0=((w.alloc (.cells #[p0,p1,p2,p3,p4,p5,p6,p7,p8,p9,p10,p11] 64)).alloc (.cells #[q0,q1,q2,q3,q4,q5,q6,q7,q8,q9,q10,q11] 64)):=⟨_,rfl⟩
 have hT0:Below w.heap.size w W0:=by rw [hW0];exact below_alloc (below_new _ _) _
 have kp:Box W0 (w.heap.size) 64 #[p0,p1,p2,p3,p4,p5,p6,p7,p8,p9,p10,p11]:=by rw [hW0];exact (Box.last _ _ _ rfl).alloc _
 have kq:Box W0 (w.heap.size+1) 64 #[q0,q1,q2,q3,q4,q5,q6,q7,q8,q9,q10,q11]:=by rw [hW0];exact Box.last _ _ _ (alloc_size _ _).symm
 have hs0:W0.heap.size=w.heap.size+2:=by rw [hW0,alloc_size,alloc_size]
 have hp:=hp.below (hT0.mono hB)
 have hq:=hq.below (hT0.mono hB)
 go_enter Tryz.func81,Tryz.ntmps81
 go_upto_region 1 with fail
 rw [←hW0]
 clear hW0
 obtain ⟨pb,pA,pn,pc,pD,pm,pk,pyb,pyA,pyn,pyc,pyD,pym,pyk,rfl,rfl,rfl,rfl,rfl,rfl⟩:=hp.fst.cut
 obtain ⟨pzb,pzA,pzn,pzc,pzD,pzm,pzk,pzyb,pzyA,pzyn,pzyc,pzyD,pzym,pzyk,rfl,rfl,rfl,rfl,rfl,rfl⟩:=hp.snd.cut
 obtain ⟨qb,qA,qn,qc,qD,qm,qk,qyb,qyA,qyn,qyc,qyD,qym,qyk,rfl,rfl,rfl,rfl,rfl,rfl⟩:=hq.fst.cut
 obtain ⟨qzb,qzA,qzn,qzc,qzD,qzm,qzk,qzyb,qzyA,qzyn,qzyc,qzyD,qzym,qzyk,rfl,rfl,rfl,rfl,rfl,rfl⟩:=hq.snd.cut
 have HC1:=hide (fun (W:World) (h:Below W0.heap.size W0 W)=>scaledC W B (by have:=h.size;omega) (hp.fst.below (h.mono (by omega))) zp.1.1 zp.1.2)
 have HC2:=hide (fun (W:World) (h:Below W0.heap.size W0 W)=>scaledC W B (by have:=h.size;omega) (hp.snd.below (h.mono (by omega))) zp.2.1 zp.2.2)
 have HBp:=hide kp
 have HS0:Hid (Below W0.heap.size W0 W0.drew):=(Below.refl _ _).drew
 have HS0a:Hid (Below W0.heap.size W0 (W0.alloc (.cells #[.bool false,.slice none 0 0,.bool false,.slice none 0 0,.bool false,.slice none 0 0] 76)).drew):=(below_new _ _).drew
 have HS0b:Hid (Below W0.heap.size W0 ((W0.alloc (.cells #[.bool false,.slice none 0 0,.bool false,.slice none 0 0,.bool false,.slice none 0 0] 76)).alloc (.cells #[.bool false,.slice none 0 0,.bool false,.slice none 0 0,.bool false,.slice none 0 0] 76)).drew):=(below_alloc (below_new _ _) _).drew
 have HKS:=hide (fun (W:World) (hq:Below W0.heap.size W0 W)=>(⟨(HBp.out.below hq HBp.out.lt).cell 0,(HBp.out.below hq HBp.out.lt).cell 1,(HBp.out.below hq HBp.out.lt).cell 2,(HBp.out.below hq HBp.out.lt).cell 3,(HBp.out.below hq HBp.out.lt).cell 4,(HBp.out.below hq HBp.out.lt).cell 5,(HBp.out.below hq HBp.out.lt).cell 6,(HBp.out.below hq HBp.out.lt).cell 7,(HBp.out.below hq HBp.out.lt).cell 8,(HBp.out.below hq HBp.out.lt).cell 9,(HBp.out.below hq HBp.out.lt).cell 10,(HBp.out.below hq HBp.out.lt).cell 11⟩:W.cell? ⟨w.heap.size,0,none⟩=some (.bool pb)∧W.cell? ⟨w.heap.size,1,none⟩=some (.slice pA pn pc)∧W.cell? ⟨w.heap.size,2,none⟩=some (.slice pD pm pk)∧W.cell? ⟨w.heap.size,3,none⟩=some (.bool pyb)∧W.cell? ⟨w.heap.size,4,none⟩=some (.slice pyA pyn pyc)∧W.cell? ⟨w.heap.size,5,none⟩=some (.slice pyD pym pyk)∧W.cell? ⟨w.heap.size,6,none⟩=some (.bool pzb)∧W.cell? ⟨w.heap.size,7,none⟩=some (.slice pzA pzn pzc)∧W.cell? ⟨w.heap.size,8,none⟩=some (.slice pzD pzm pzk)∧W.cell? ⟨w.heap.size,9,none⟩=some (.bool pzyb)∧W.cell? ⟨w.heap.size,10,none⟩=some (.slice pzyA pzyn pzyc)∧W.cell? ⟨w.heap.size,11,none⟩=some (.slice pzyD pzym pzyk)))
 have Ehs0:=hide hs0
 clear hs0
 obtain ⟨yp0,yp1,yp2,yp3,yp4,yp5,yp6,yp7,yp8,yp9,yp10,yp11⟩:=kp.cells12
 go_cut [5,6] from 7 to 26 (fun sx sy wx=>TwoC W0 wx sx sy 76 (scP pZ.1) (scP pZ.2))
 case first =>
  refine wp_region_held_drew (S:=(fun w'=>w'.cell? ⟨w.heap.size,0,none⟩=some (.bool pb)∧w'.cell? ⟨w.heap.size,1,none⟩=some (.slice pA pn pc)∧w'.cell? ⟨w.heap.size,2,none⟩=some (.slice pD pm pk)∧w'.cell? ⟨w.heap.size,3,none⟩=some (.bool pyb)∧w'.cell? ⟨w.heap.size,4,none⟩=some (.slice pyA pyn pyc)∧w'.cell? ⟨w.heap.size,5,none⟩=some (.slice pyD pym pyk)∧w'.cell? ⟨w.heap.size,6,none⟩=some (.bool pzb)∧w'.cell? ⟨w.heap.size,7,none⟩=some (.slice pzA pzn pzc)∧w'.cell? ⟨w.heap.size,8,none⟩=some (.slice pzD pzm pzk)∧w'.cell? ⟨w.heap.size,9,none⟩=some (.bool pzyb)∧w'.cell? ⟨w.heap.size,10,none⟩=some (.slice pzyA pzyn pzyc)∧w'.cell? ⟨w.heap.size,11,none⟩=some (.slice pzyD pzym pzyk))) (by kernel_rfl) (HKS.out _ HS0.out) (fun hHeld=>?_)
  show wpAnyH _ _ _ _ _ 10 _ _ _
  refine takeTQ (i:=0) (t:=7) (v:=?_) rfl (by kernel_rfl) (by kernel_rfl) (by kernel_rfl) (fun _ _ _ h=>h) rfl (by rfl) ?_ hHeld ?_
  rotate_left 1
  · intro w hSw;(try dsimp only at hSw);go_simp;with_reducible rfl
  refine takeTQ (i:=1) (t:=8) (v:=?_) rfl (by kernel_rfl) (by kernel_rfl) (by kernel_rfl) (fun _ _ _ h=>h) rfl (by rfl) ?_ hHeld ?_
  rotate_left 1
  · intro w hSw;(try dsimp only at hSw);go_simp;with_reducible rfl
  refine takeTQ (i:=3) (t:=10) (v:=?_) rfl (by kernel_rfl) (by kernel_rfl) (by kernel_rfl) (fun _ _ _ h=>h) rfl (by rfl) ?_ hHeld ?_
  rotate_left 1
  · intro w hSw;(try dsimp only at hSw);go_simp;with_reducible rfl
  refine takeTQ (i:=4) (t:=11) (v:=?_) rfl (by kernel_rfl) (by kernel_rfl) (by kernel_rfl) (fun _ _ _ h=>h) rfl (by rfl) ?_ hHeld ?_
  rotate_left 1
  · intro w hSw;(try dsimp only at hSw);go_simp;with_reducible rfl
  clear yp0 yp1 yp2 yp3 yp4 yp5 yp6 yp7 yp8 yp9 yp10 yp11
  refine wpAnyH_ready (rs:=[2,6,7]) (by kernel_rfl) (by simp) ?_
  refine (AllReadyH.cons rfl (fun K hK=>?_) (AllReadyH.cons rfl (fun K hK=>?_) (AllReadyH.cons rfl (fun K hK=>?_) AllReadyH.nil)))
  · simp only [List.getElem_toArray,List.getElem_cons_succ,List.getElem_cons_zero]
    go_simp
    go_at_call 46
    (with_reducible refine Calls.mono (HC1.out _ HS0.out) ?_)
    rintro e V1 ⟨c0,c1',c2',c3,c4,c5,rfl,oc,bV1⟩
    obtain ⟨cb,cA,cn,cc,cyb,cyA,cyn,cyc,czb,czA,czn,czc,rfl,rfl,rfl,rfl,rfl,rfl⟩:=oc.cut
    have oc:COwn V1 W0.heap.size V1.heap.size 3 (.bool cb) (.slice cA cn cc) (.bool cyb) (.slice cyA cyn cyc) (.bool czb) (.slice czA czn czc) (scP pZ.1):=oc
    have zV1:W0.heap.size≤V1.heap.size:=bV1.size
    have HV1:=hide (below_then HS0.out bV1)
    go_wp2_with fail
    refine hK.out _ _ (HKS.out _ HV1.out) (fun hHeld=>?_)
    clear hK K bV1
    refine wpAnyH_ready (rs:=[5,6,7]) (by kernel_rfl) (by simp) ?_
    refine (AllReadyH.cons rfl (fun K hK=>?_) (AllReadyH.cons rfl (fun K hK=>?_) (AllReadyH.cons rfl (fun K hK=>?_) AllReadyH.nil)))
    · simp only [List.getElem_toArray,List.getElem_cons_succ,List.getElem_cons_zero]
      go_simp
      go_at_call 46
      (with_reducible refine Calls.mono (HC2.out _ HV1.out) ?_)
      rintro e V2 ⟨d0,d1',d2',d3,d4,d5,rfl,od,bV2⟩
      obtain ⟨db,dA,dn,dc,dyb,dyA,dyn,dyc,dzb,dzA,dzn,dzc,rfl,rfl,rfl,rfl,rfl,rfl⟩:=od.cut
      have od:COwn V2 V1.heap.size V2.heap.size 3 (.bool db) (.slice dA dn dc) (.bool dyb) (.slice dyA dyn dyc) (.bool dzb) (.slice dzA dzn dzc) (scP pZ.2):=od
      have zV2:V1.heap.size≤V2.heap.size:=bV2.size
      have HV2:=hide (below_then HV1.out bV2)
      have oc:=oc.below bV2 (by omega)
      go_wp2_with fail
      refine hK.out _ _ (HKS.out _ HV2.out) (fun hHeld=>?_)
      clear hK K bV2
      refine wpAnyH_ready (rs:=[6,7]) (by kernel_rfl) (by simp) ?_
      refine (AllReadyH.cons rfl (fun K hK=>?_) (AllReadyH.cons rfl (fun K hK=>?_) AllReadyH.nil))
      · simp only [List.getElem_toArray,List.getElem_cons_succ,List.getElem_cons_zero]
        go_wp2_with fail
        obtain ⟨V3,hV3⟩:∃ x,x=V2.alloc (.cells #[.bool false,.slice none 0 0,.bool false,.slice none 0 0,.bool false,.slice none 0 0] 76):=⟨_,rfl⟩
        have bV3:Below V2.heap.size V2 V3:=by rw [hV3];exact below_new _ _
        have kV3:Box V3 V2.heap.size 76 #[.bool false,.slice none 0 0,.bool false,.slice none 0 0,.bool false,.slice none 0 0]:=by rw [hV3];exact Box.last _ _ _ rfl
        have zV3:V3.heap.size≤V2.heap.size+1∧V2.heap.size+1≤V3.heap.size:=by rw [hV3,alloc_size];exact ⟨Nat.le_refl _,Nat.le_refl _⟩
        have HV3:=hide (below_then HV2.out bV3)
        have kA:=kV3
        have oc:=oc.below bV3 (by omega)
        have od:=od.below bV3 (by omega)
        rw [←hV3]
        refine hK.out _ _ (HKS.out _ HV3.out) (fun hHeld=>?_)
        clear hK K hV3 bV3 kV3
        refine wpAnyH_ready (rs:=[7]) (by kernel_rfl) (by simp) ?_
        refine (AllReadyH.cons rfl (fun K hK=>?_) AllReadyH.nil)
        · simp only [List.getElem_toArray,List.getElem_cons_succ,List.getElem_cons_zero]
          go_wp2_with fail
          obtain ⟨V4,hV4⟩:∃ x,x=V3.alloc (.cells #[.bool false,.slice none 0 0,.bool false,.slice none 0 0,.bool false,.slice none 0 0] 76):=⟨_,rfl⟩
          have bV4:Below V3.heap.size V3 V4:=by rw [hV4];exact below_new _ _
          have kV4:Box V4 V3.heap.size 76 #[.bool false,.slice none 0 0,.bool false,.slice none 0 0,.bool false,.slice none 0 0]:=by rw [hV4];exact Box.last _ _ _ rfl
          have zV4:V4.heap.size≤V3.heap.size+1∧V3.heap.size+1≤V4.heap.size:=by rw [hV4,alloc_size];exact ⟨Nat.le_refl _,Nat.le_refl _⟩
          have HV4:=hide (below_then HV3.out bV4)
          have kA:=kA.below bV4 kA.lt
          have kB:=kV4
          have oc:=oc.below bV4 (by omega)
          have od:=od.below bV4 (by omega)
          rw [←hV4]
          refine hK.out _ _ (HKS.out _ HV4.out) (fun hHeld=>?_)
          clear hK K hV4 bV4 kV4
          have lA:=kA.lt
          have lB:=kB.lt
          obtain ⟨⟨t0,t1,t2,t3,t4,t5⟩,f0,f1,f2,f3,f4,f5⟩:=kA.facts6
          refine wpAnyH_ready (rs:=[8]) (by kernel_rfl) (by simp) ?_
          refine AllReadyH.cons rfl (fun K hK=>?_) AllReadyH.nil
          simp only [List.getElem_toArray,List.getElem_cons_succ,List.getElem_cons_zero]
          go_wp2_with fail
          clear t0 t1 t2 t3 t4 t5 f0 f1 f2 f3 f4 f5
          obtain ⟨V5,hV5⟩:∃ x,x=((((((V4.setCell ⟨V2.heap.size,0,none⟩ (.bool cb)).setCell ⟨V2.heap.size,1,none⟩ (.slice cA cn cc)).setCell ⟨V2.heap.size,2,none⟩ (.bool cyb)).setCell ⟨V2.heap.size,3,none⟩ (.slice cyA cyn cyc)).setCell ⟨V2.heap.size,4,none⟩ (.bool czb)).setCell ⟨V2.heap.size,5,none⟩ (.slice czA czn czc)):=⟨_,rfl⟩
          have zV5:V5.heap.size≤V4.heap.size∧V4.heap.size≤V5.heap.size:=by rw [hV5];simp only [setCell_size];exact ⟨Nat.le_refl _,Nat.le_refl _⟩
          have HV5:Hid (Below W0.heap.size W0 V5):=by rw [hV5];exact below_set6E HV4.out (by omega) _ _ _ _ _ _
          have kA:Box V5 (V2.heap.size) 76 #[.bool cb,.slice cA cn cc,.bool cyb,.slice cyA cyn cyc,.bool czb,.slice czA czn czc]:=by rw [hV5];exact box_new6 kA _ _ _ _ _ _
          have kB:Box V5 (V3.heap.size) 76 #[.bool false,.slice none 0 0,.bool false,.slice none 0 0,.bool false,.slice none 0 0]:=by rw [hV5];exact box_set6 kB (by omega) _ _ _ _ _ _
          have oc:COwn V5 (W0.heap.size) (V1.heap.size) 3 (.bool cb) (.slice cA cn cc) (.bool cyb) (.slice cyA cyn cyc) (.bool czb) (.slice czA czn czc) (scP pZ.1):=by rw [hV5];exact oc.set6 (by omega)
          have od:COwn V5 (V1.heap.size) (V2.heap.size) 3 (.bool db) (.slice dA dn dc) (.bool dyb) (.slice dyA dyn dyc) (.bool dzb) (.slice dzA dzn dzc) (scP pZ.2):=by rw [hV5];exact od.set6 (by omega)
          rw [←hV5]
          refine hK.out _ _ (HKS.out _ HV5.out) (fun hHeld=>?_)
          clear hK K hV5
          obtain ⟨⟨t0,t1,t2,t3,t4,t5⟩,f0,f1,f2,f3,f4,f5⟩:=kB.facts6
          refine wpAnyH_ready (rs:=[9]) (by kernel_rfl) (by simp) ?_
          refine AllReadyH.cons rfl (fun K hK=>?_) AllReadyH.nil
          simp only [List.getElem_toArray,List.getElem_cons_succ,List.getElem_cons_zero]
          go_wp2_with fail
          clear t0 t1 t2 t3 t4 t5 f0 f1 f2 f3 f4 f5
          obtain ⟨V6,hV6⟩:∃ x,x=((((((V5.setCell ⟨V3.heap.size,0,none⟩ (.bool db)).setCell ⟨V3.heap.size,1,none⟩ (.slice dA dn dc)).setCell ⟨V3.heap.size,2,none⟩ (.bool dyb)).setCell ⟨V3.heap.size,3,none⟩ (.slice dyA dyn dyc)).setCell ⟨V3.heap.size,4,none⟩ (.bool dzb)).setCell ⟨V3.heap.size,5,none⟩ (.slice dzA dzn dzc)):=⟨_,rfl⟩
          have zV6:V6.heap.size≤V5.heap.size∧V5.heap.size≤V6.heap.size:=by rw [hV6];simp only [setCell_size];exact ⟨Nat.le_refl _,Nat.le_refl _⟩
          have HV6:Hid (Below W0.heap.size W0 V6):=by rw [hV6];exact below_set6E HV5.out (by omega) _ _ _ _ _ _
          have kB:Box V6 (V3.heap.size) 76 #[.bool db,.slice dA dn dc,.bool dyb,.slice dyA dyn dyc,.bool dzb,.slice dzA dzn dzc]:=by rw [hV6];exact box_new6 kB _ _ _ _ _ _
          have kA:Box V6 (V2.heap.size) 76 #[.bool cb,.slice cA cn cc,.bool cyb,.slice cyA cyn cyc,.bool czb,.slice czA czn czc]:=by rw [hV6];exact box_set6 kA (by omega) _ _ _ _ _ _
          have oc:COwn V6 (W0.heap.size) (V1.heap.size) 3 (.bool cb) (.slice cA cn cc) (.bool cyb) (.slice cyA cyn cyc) (.bool czb) (.slice czA czn czc) (scP pZ.1):=by rw [hV6];exact oc.set6 (by omega)
          have od:COwn V6 (V1.heap.size) (V2.heap.size) 3 (.bool db) (.slice dA dn dc) (.bool dyb) (.slice dyA dyn dyc) (.bool dzb) (.slice dzA dzn dzc) (scP pZ.2):=by rw [hV6];exact od.set6 (by omega)
          rw [←hV6]
          refine hK.out _ _ (HKS.out _ HV6.out) (fun hHeld=>?_)
          clear hK K hV6
          refine wpAnyH_done (by kernel_rfl) ?_ _
          go_wp2_with fail
          go_meet
          case rel=>exact ⟨_,_,_,_,_,_,_,_,_,_,_,_,_,_,rfl,rfl,kA,kB,oc.in_ S1.out (by omega),od.in_ S2.out (by omega),by omega,by omega,HV6.out⟩
      · simp only [List.getElem_toArray,List.getElem_cons_succ,List.getElem_cons_zero]
        go_wp2_with fail
        obtain ⟨V7,hV7⟩:∃ x,x=V2.alloc (.cells #[.bool false,.slice none 0 0,.bool false,.slice none 0 0,.bool false,.slice none 0 0] 76):=⟨_,rfl⟩
        have bV7:Below V2.heap.size V2 V7:=by rw [hV7];exact below_new _ _
        have kV7:Box V7 V2.heap.size 76 #[.bool false,.slice none 0 0,.bool false,.slice none 0 0,.bool false,.slice none 0 0]:=by rw [hV7];exact Box.last _ _ _ rfl
        have zV7:V7.heap.size≤V2.heap.size+1∧V2.heap.size+1≤V7.heap.size:=by rw [hV7,alloc_size];exact ⟨Nat.le_refl _,Nat.le_refl _⟩
        have HV7:=hide (below_then HV2.out bV7)
        have kB:=kV7
        have oc:=oc.below bV7 (by omega)
        have od:=od.below bV7 (by omega)
        rw [←hV7]
        refine hK.out _ _ (HKS.out _ HV7.out) (fun hHeld=>?_)
        clear hK K hV7 bV7 kV7
        refine wpAnyH_ready (rs:=[6]) (by kernel_rfl) (by simp) ?_
        refine (AllReadyH.cons rfl (fun K hK=>?_) AllReadyH.nil)
        · simp only [List.getElem_toArray,List.getElem_cons_succ,List.getElem_cons_zero]
          go_wp2_with fail
          obtain ⟨V8,hV8⟩:∃ x,x=V7.alloc (.cells #[.bool false,.slice none 0 0,.bool false,.slice none 0 0,.bool false,.slice none 0 0] 76):=⟨_,rfl⟩
          have bV8:Below V7.heap.size V7 V8:=by rw [hV8];exact below_new _ _
          have kV8:Box V8 V7.heap.size 76 #[.bool false,.slice none 0 0,.bool false,.slice none 0 0,.bool false,.slice none 0 0]:=by rw [hV8];exact Box.last _ _ _ rfl
          have zV8:V8.heap.size≤V7.heap.size+1∧V7.heap.size+1≤V8.heap.size:=by rw [hV8,alloc_size];exact ⟨Nat.le_refl _,Nat.le_refl _⟩
          have HV8:=hide (below_then HV7.out bV8)
          have kB:=kB.below bV8 kB.lt
          have kA:=kV8
          have oc:=oc.below bV8 (by omega)
          have od:=od.below bV8 (by omega)
          rw [←hV8]
          refine hK.out _ _ (HKS.out _ HV8.out) (fun hHeld=>?_)
          clear hK K hV8 bV8 kV8
          have lA:=kA.lt
          have lB:=kB.lt
          obtain ⟨⟨t0,t1,t2,t3,t4,t5⟩,f0,f1,f2,f3,f4,f5⟩:=kA.facts6
          refine wpAnyH_ready (rs:=[8]) (by kernel_rfl) (by simp) ?_
          refine AllReadyH.cons rfl (fun K hK=>?_) AllReadyH.nil
          simp only [List.getElem_toArray,List.getElem_cons_succ,List.getElem_cons_zero]
          go_wp2_with fail
          clear t0 t1 t2 t3 t4 t5 f0 f1 f2 f3 f4 f5
          obtain ⟨V9,hV9⟩:∃ x,x=((((((V8.setCell ⟨V7.heap.size,0,none⟩ (.bool cb)).setCell ⟨V7.heap.size,1,none⟩ (.slice cA cn cc)).setCell ⟨V7.heap.size,2,none⟩ (.bool cyb)).setCell ⟨V7.heap.size,3,none⟩ (.slice cyA cyn cyc)).setCell ⟨V7.heap.size,4,none⟩ (.bool czb)).setCell ⟨V7.heap.size,5,none⟩ (.slice czA czn czc)):=⟨_,rfl⟩
          have zV9:V9.heap.size≤V8.heap.size∧V8.heap.size≤V9.heap.size:=by rw [hV9];simp only [setCell_size];exact ⟨Nat.le_refl _,Nat.le_refl _⟩
          have HV9:Hid (Below W0.heap.size W0 V9):=by rw [hV9];exact below_set6E HV8.out (by omega) _ _ _ _ _ _
          have kA:Box V9 (V7.heap.size) 76 #[.bool cb,.slice cA cn cc,.bool cyb,.slice cyA cyn cyc,.bool czb,.slice czA czn czc]:=by rw [hV9];exact box_new6 kA _ _ _ _ _ _
          have kB:Box V9 (V2.heap.size) 76 #[.bool false,.slice none 0 0,.bool false,.slice none 0 0,.bool false,.slice none 0 0]:=by rw [hV9];exact box_set6 kB (by omega) _ _ _ _ _ _
          have oc:COwn V9 (W0.heap.size) (V1.heap.size) 3 (.bool cb) (.slice cA cn cc) (.bool cyb) (.slice cyA cyn cyc) (.bool czb) (.slice czA czn czc) (scP pZ.1):=by rw [hV9];exact oc.set6 (by omega)
          have od:COwn V9 (V1.heap.size) (V2.heap.size) 3 (.bool db) (.slice dA dn dc) (.bool dyb) (.slice dyA dyn dyc) (.bool dzb) (.slice dzA dzn dzc) (scP pZ.2):=by rw [hV9];exact od.set6 (by omega)
          rw [←hV9]
          refine hK.out _ _ (HKS.out _ HV9.out) (fun hHeld=>?_)
          clear hK K hV9
          obtain ⟨⟨t0,t1,t2,t3,t4,t5⟩,f0,f1,f2,f3,f4,f5⟩:=kB.facts6
          refine wpAnyH_ready (rs:=[9]) (by kernel_rfl) (by simp) ?_
          refine AllReadyH.cons rfl (fun K hK=>?_) AllReadyH.nil
          simp only [List.getElem_toArray,List.getElem_cons_succ,List.getElem_cons_zero]
          go_wp2_with fail
          clear t0 t1 t2 t3 t4 t5 f0 f1 f2 f3 f4 f5
          obtain ⟨V10,hV10⟩:∃ x,x=((((((V9.setCell ⟨V2.heap.size,0,none⟩ (.bool db)).setCell ⟨V2.heap.size,1,none⟩ (.slice dA dn dc)).setCell ⟨V2.heap.size,2,none⟩ (.bool dyb)).setCell ⟨V2.heap.size,3,none⟩ (.slice dyA dyn dyc)).setCell ⟨V2.heap.size,4,none⟩ (.bool dzb)).setCell ⟨V2.heap.size,5,none⟩ (.slice dzA dzn dzc)):=⟨_,rfl⟩
          have zV10:V10.heap.size≤V9.heap.size∧V9.heap.size≤V10.heap.size:=by rw [hV10];simp only [setCell_size];exact ⟨Nat.le_refl _,Nat.le_refl _⟩
          have HV10:Hid (Below W0.heap.size W0 V10):=by rw [hV10];exact below_set6E HV9.out (by omega) _ _ _ _ _ _
          have kB:Box V10 (V2.heap.size) 76 #[.bool db,.slice dA dn dc,.bool dyb,.slice dyA dyn dyc,.bool dzb,.slice dzA dzn dzc]:=by rw [hV10];exact box_new6 kB _ _ _ _ _ _
          have kA:Box V10 (V7.heap.size) 76 #[.bool cb,.slice cA cn cc,.bool cyb,.slice cyA cyn cyc,.bool czb,.slice czA czn czc]:=by rw [hV10];exact box_set6 kA (by omega) _ _ _ _ _ _
          have oc:COwn V10 (W0.heap.size) (V1.heap.size) 3 (.bool cb) (.slice cA cn cc) (.bool cyb) (.slice cyA cyn cyc) (.bool czb) (.slice czA czn czc) (scP pZ.1):=by rw [hV10];exact oc.set6 (by omega)
          have od:COwn V10 (V1.heap.size) (V2.heap.size) 3 (.bool db) (.slice dA dn dc) (.bool dyb) (.slice dyA dyn dyc) (.bool dzb) (.slice dzA dzn dzc) (scP pZ.2):=by rw [hV10];exact od.set6 (by omega)
          rw [←hV10]
          refine hK.out _ _ (HKS.out _ HV10.out) (fun hHeld=>?_)
          clear hK K hV10
          refine wpAnyH_done (by kernel_rfl) ?_ _
          go_wp2_with fail
          go_meet
          case rel=>exact ⟨_,_,_,_,_,_,_,_,_,_,_,_,_,_,rfl,rfl,kA,kB,oc.in_ S1.out (by omega),od.in_ S2.out (by omega),by omega,by omega,HV10.out⟩
    · simp only [List.getElem_toArray,List.getElem_cons_succ,List.getElem_cons_zero]
      go_wp2_with fail
      obtain ⟨V11,hV11⟩:∃ x,x=V1.alloc (.cells #[.bool false,.slice none 0 0,.bool false,.slice none 0 0,.bool false,.slice none 0 0] 76):=⟨_,rfl⟩
      have bV11:Below V1.heap.size V1 V11:=by rw [hV11];exact below_new _ _
      have kV11:Box V11 V1.heap.size 76 #[.bool false,.slice none 0 0,.bool false,.slice none 0 0,.bool false,.slice none 0 0]:=by rw [hV11];exact Box.last _ _ _ rfl
      have zV11:V11.heap.size≤V1.heap.size+1∧V1.heap.size+1≤V11.heap.size:=by rw [hV11,alloc_size];exact ⟨Nat.le_refl _,Nat.le_refl _⟩
      have HV11:=hide (below_then HV1.out bV11)
      have kA:=kV11
      have oc:=oc.below bV11 (by omega)
      rw [←hV11]
      refine hK.out _ _ (HKS.out _ HV11.out) (fun hHeld=>?_)
      clear hK K hV11 bV11 kV11
      refine wpAnyH_ready (rs:=[5,7]) (by kernel_rfl) (by simp) ?_
      refine (AllReadyH.cons rfl (fun K hK=>?_) (AllReadyH.cons rfl (fun K hK=>?_) AllReadyH.nil))
      · simp only [List.getElem_toArray,List.getElem_cons_succ,List.getElem_cons_zero]
        go_simp
        go_at_call 46
        (with_reducible refine Calls.mono (HC2.out _ HV11.out) ?_)
        rintro e V12 ⟨d0,d1',d2',d3,d4,d5,rfl,od,bV12⟩
        obtain ⟨db,dA,dn,dc,dyb,dyA,dyn,dyc,dzb,dzA,dzn,dzc,rfl,rfl,rfl,rfl,rfl,rfl⟩:=od.cut
        have od:COwn V12 V11.heap.size V12.heap.size 3 (.bool db) (.slice dA dn dc) (.bool dyb) (.slice dyA dyn dyc) (.bool dzb) (.slice dzA dzn dzc) (scP pZ.2):=od
        have zV12:V11.heap.size≤V12.heap.size:=bV12.size
        have HV12:=hide (below_then HV11.out bV12)
        have kA:=kA.below bV12 kA.lt
        have oc:=oc.below bV12 (by omega)
        go_wp2_with fail
        refine hK.out _ _ (HKS.out _ HV12.out) (fun hHeld=>?_)
        clear hK K bV12
        refine wpAnyH_ready (rs:=[7]) (by kernel_rfl) (by simp) ?_
        refine (AllReadyH.cons rfl (fun K hK=>?_) AllReadyH.nil)
        · simp only [List.getElem_toArray,List.getElem_cons_succ,List.getElem_cons_zero]
          go_wp2_with fail
          obtain ⟨V13,hV13⟩:∃ x,x=V12.alloc (.cells #[.bool false,.slice none 0 0,.bool false,.slice none 0 0,.bool false,.slice none 0 0] 76):=⟨_,rfl⟩
          have bV13:Below V12.heap.size V12 V13:=by rw [hV13];exact below_new _ _
          have kV13:Box V13 V12.heap.size 76 #[.bool false,.slice none 0 0,.bool false,.slice none 0 0,.bool false,.slice none 0 0]:=by rw [hV13];exact Box.last _ _ _ rfl
          have zV13:V13.heap.size≤V12.heap.size+1∧V12.heap.size+1≤V13.heap.size:=by rw [hV13,alloc_size];exact ⟨Nat.le_refl _,Nat.le_refl _⟩
          have HV13:=hide (below_then HV12.out bV13)
          have kA:=kA.below bV13 kA.lt
          have kB:=kV13
          have oc:=oc.below bV13 (by omega)
          have od:=od.below bV13 (by omega)
          rw [←hV13]
          refine hK.out _ _ (HKS.out _ HV13.out) (fun hHeld=>?_)
          clear hK K hV13 bV13 kV13
          have lA:=kA.lt
          have lB:=kB.lt
          obtain ⟨⟨t0,t1,t2,t3,t4,t5⟩,f0,f1,f2,f3,f4,f5⟩:=kA.facts6
          refine wpAnyH_ready (rs:=[8]) (by kernel_rfl) (by simp) ?_
          refine AllReadyH.cons rfl (fun K hK=>?_) AllReadyH.nil
          simp only [List.getElem_toArray,List.getElem_cons_succ,List.getElem_cons_zero]
          go_wp2_with fail
          clear t0 t1 t2 t3 t4 t5 f0 f1 f2 f3 f4 f5
          obtain ⟨V14,hV14⟩:∃ x,x=((((((V13.setCell ⟨V1.heap.size,0,none⟩ (.bool cb)).setCell ⟨V1.heap.size,1,none⟩ (.slice cA cn cc)).setCell ⟨V1.heap.size,2,none⟩ (.bool cyb)).setCell ⟨V1.heap.size,3,none⟩ (.slice cyA cyn cyc)).setCell ⟨V1.heap.size,4,none⟩ (.bool czb)).setCell ⟨V1.heap.size,5,none⟩ (.slice czA czn czc)):=⟨_,rfl⟩
          have zV14:V14.heap.size≤V13.heap.size∧V13.heap.size≤V14.heap.size:=by rw [hV14];simp only [setCell_size];exact ⟨Nat.le_refl _,Nat.le_refl _⟩
          have HV14:Hid (Below W0.heap.size W0 V14):=by rw [hV14];exact below_set6E HV13.out (by omega) _ _ _ _ _ _
          have kA:Box V14 (V1.heap.size) 76 #[.bool cb,.slice cA cn cc,.bool cyb,.slice cyA cyn cyc,.bool czb,.slice czA czn czc]:=by rw [hV14];exact box_new6 kA _ _ _ _ _ _
          have kB:Box V14 (V12.heap.size) 76 #[.bool false,.slice none 0 0,.bool false,.slice none 0 0,.bool false,.slice none 0 0]:=by rw [hV14];exact box_set6 kB (by omega) _ _ _ _ _ _
          have oc:COwn V14 (W0.heap.size) (V1.heap.size) 3 (.bool cb) (.slice cA cn cc) (.bool cyb) (.slice cyA cyn cyc) (.bool czb) (.slice czA czn czc) (scP pZ.1):=by rw [hV14];exact oc.set6 (by omega)
          have od:COwn V14 (V11.heap.size) (V12.heap.size) 3 (.bool db) (.slice dA dn dc) (.bool dyb) (.slice dyA dyn dyc) (.bool dzb) (.slice dzA dzn dzc) (scP pZ.2):=by rw [hV14];exact od.set6 (by omega)
          rw [←hV14]
          refine hK.out _ _ (HKS.out _ HV14.out) (fun hHeld=>?_)
          clear hK K hV14
          obtain ⟨⟨t0,t1,t2,t3,t4,t5⟩,f0,f1,f2,f3,f4,f5⟩:=kB.facts6
          refine wpAnyH_ready (rs:=[9]) (by kernel_rfl) (by simp) ?_
          refine AllReadyH.cons rfl (fun K hK=>?_) AllReadyH.nil
          simp only [List.getElem_toArray,List.getElem_cons_succ,List.getElem_cons_zero]
          go_wp2_with fail
          clear t0 t1 t2 t3 t4 t5 f0 f1 f2 f3 f4 f5
          obtain ⟨V15,hV15⟩:∃ x,x=((((((V14.setCell ⟨V12.heap.size,0,none⟩ (.bool db)).setCell ⟨V12.heap.size,1,none⟩ (.slice dA dn dc)).setCell ⟨V12.heap.size,2,none⟩ (.bool dyb)).setCell ⟨V12.heap.size,3,none⟩ (.slice dyA dyn dyc)).setCell ⟨V12.heap.size,4,none⟩ (.bool dzb)).setCell ⟨V12.heap.size,5,none⟩ (.slice dzA dzn dzc)):=⟨_,rfl⟩
          have zV15:V15.heap.size≤V14.heap.size∧V14.heap.size≤V15.heap.size:=by rw [hV15];simp only [setCell_size];exact ⟨Nat.le_refl _,Nat.le_refl _⟩
          have HV15:Hid (Below W0.heap.size W0 V15):=by rw [hV15];exact below_set6E HV14.out (by omega) _ _ _ _ _ _
          have kB:Box V15 (V12.heap.size) 76 #[.bool db,.slice dA dn dc,.bool dyb,.slice dyA dyn dyc,.bool dzb,.slice dzA dzn dzc]:=by rw [hV15];exact box_new6 kB _ _ _ _ _ _
          have kA:Box V15 (V1.heap.size) 76 #[.bool cb,.slice cA cn cc,.bool cyb,.slice cyA cyn cyc,.bool czb,.slice czA czn czc]:=by rw [hV15];exact box_set6 kA (by omega) _ _ _ _ _ _
          have oc:COwn V15 (W0.heap.size) (V1.heap.size) 3 (.bool cb) (.slice cA cn cc) (.bool cyb) (.slice cyA cyn cyc) (.bool czb) (.slice czA czn czc) (scP pZ.1):=by rw [hV15];exact oc.set6 (by omega)
          have od:COwn V15 (V11.heap.size) (V12.heap.size) 3 (.bool db) (.slice dA dn dc) (.bool dyb) (.slice dyA dyn dyc) (.bool dzb) (.slice dzA dzn dzc) (scP pZ.2):=by rw [hV15];exact od.set6 (by omega)
          rw [←hV15]
          refine hK.out _ _ (HKS.out _ HV15.out) (fun hHeld=>?_)
          clear hK K hV15
          refine wpAnyH_done (by kernel_rfl) ?_ _
          go_wp2_with fail
          go_meet
          case rel=>exact ⟨_,_,_,_,_,_,_,_,_,_,_,_,_,_,rfl,rfl,kA,kB,oc.in_ S1.out (by omega),od.in_ S2.out (by omega),by omega,by omega,HV15.out⟩
      · simp only [List.getElem_toArray,List.getElem_cons_succ,List.getElem_cons_zero]
        go_wp2_with fail
        obtain ⟨V16,hV16⟩:∃ x,x=V11.alloc (.cells #[.bool false,.slice none 0 0,.bool false,.slice none 0 0,.bool false,.slice none 0 0] 76):=⟨_,rfl⟩
        have bV16:Below V11.heap.size V11 V16:=by rw [hV16];exact below_new _ _
        have kV16:Box V16 V11.heap.size 76 #[.bool false,.slice none 0 0,.bool false,.slice none 0 0,.bool false,.slice none 0 0]:=by rw [hV16];exact Box.last _ _ _ rfl
        have zV16:V16.heap.size≤V11.heap.size+1∧V11.heap.size+1≤V16.heap.size:=by rw [hV16,alloc_size];exact ⟨Nat.le_refl _,Nat.le_refl _⟩
        have HV16:=hide (below_then HV11.out bV16)
        have kA:=kA.below bV16 kA.lt
        have kB:=kV16
        have oc:=oc.below bV16 (by omega)
        rw [←hV16]
        refine hK.out _ _ (HKS.out _ HV16.out) (fun hHeld=>?_)
        clear hK K hV16 bV16 kV16
        refine wpAnyH_ready (rs:=[5]) (by kernel_rfl) (by simp) ?_
        refine (AllReadyH.cons rfl (fun K hK=>?_) AllReadyH.nil)
        · simp only [List.getElem_toArray,List.getElem_cons_succ,List.getElem_cons_zero]
          go_simp
          go_at_call 46
          (with_reducible refine Calls.mono (HC2.out _ HV16.out) ?_)
          rintro e V17 ⟨d0,d1',d2',d3,d4,d5,rfl,od,bV17⟩
          obtain ⟨db,dA,dn,dc,dyb,dyA,dyn,dyc,dzb,dzA,dzn,dzc,rfl,rfl,rfl,rfl,rfl,rfl⟩:=od.cut
          have od:COwn V17 V16.heap.size V17.heap.size 3 (.bool db) (.slice dA dn dc) (.bool dyb) (.slice dyA dyn dyc) (.bool dzb) (.slice dzA dzn dzc) (scP pZ.2):=od
          have zV17:V16.heap.size≤V17.heap.size:=bV17.size
          have HV17:=hide (below_then HV16.out bV17)
          have kA:=kA.below bV17 kA.lt
          have kB:=kB.below bV17 kB.lt
          have oc:=oc.below bV17 (by omega)
          go_wp2_with fail
          refine hK.out _ _ (HKS.out _ HV17.out) (fun hHeld=>?_)
          clear hK K bV17
          have lA:=kA.lt
          have lB:=kB.lt
          obtain ⟨⟨t0,t1,t2,t3,t4,t5⟩,f0,f1,f2,f3,f4,f5⟩:=kA.facts6
          refine wpAnyH_ready (rs:=[8]) (by kernel_rfl) (by simp) ?_
          refine AllReadyH.cons rfl (fun K hK=>?_) AllReadyH.nil
          simp only [List.getElem_toArray,List.getElem_cons_succ,List.getElem_cons_zero]
          go_wp2_with fail
          clear t0 t1 t2 t3 t4 t5 f0 f1 f2 f3 f4 f5
          obtain ⟨V18,hV18⟩:∃ x,x=((((((V17.setCell ⟨V1.heap.size,0,none⟩ (.bool cb)).setCell ⟨V1.heap.size,1,none⟩ (.slice cA cn cc)).setCell ⟨V1.heap.size,2,none⟩ (.bool cyb)).setCell ⟨V1.heap.size,3,none⟩ (.slice cyA cyn cyc)).setCell ⟨V1.heap.size,4,none⟩ (.bool czb)).setCell ⟨V1.heap.size,5,none⟩ (.slice czA czn czc)):=⟨_,rfl⟩
          have zV18:V18.heap.size≤V17.heap.size∧V17.heap.size≤V18.heap.size:=by rw [hV18];simp only [setCell_size];exact ⟨Nat.le_refl _,Nat.le_refl _⟩
          have HV18:Hid (Below W0.heap.size W0 V18):=by rw [hV18];exact below_set6E HV17.out (by omega) _ _ _ _ _ _
          have kA:Box V18 (V1.heap.size) 76 #[.bool cb,.slice cA cn cc,.bool cyb,.slice cyA cyn cyc,.bool czb,.slice czA czn czc]:=by rw [hV18];exact box_new6 kA _ _ _ _ _ _
          have kB:Box V18 (V11.heap.size) 76 #[.bool false,.slice none 0 0,.bool false,.slice none 0 0,.bool false,.slice none 0 0]:=by rw [hV18];exact box_set6 kB (by omega) _ _ _ _ _ _
          have oc:COwn V18 (W0.heap.size) (V1.heap.size) 3 (.bool cb) (.slice cA cn cc) (.bool cyb) (.slice cyA cyn cyc) (.bool czb) (.slice czA czn czc) (scP pZ.1):=by rw [hV18];exact oc.set6 (by omega)
          have od:COwn V18 (V16.heap.size) (V17.heap.size) 3 (.bool db) (.slice dA dn dc) (.bool dyb) (.slice dyA dyn dyc) (.bool dzb) (.slice dzA dzn dzc) (scP pZ.2):=by rw [hV18];exact od.set6 (by omega)
          rw [←hV18]
          refine hK.out _ _ (HKS.out _ HV18.out) (fun hHeld=>?_)
          clear hK K hV18
          obtain ⟨⟨t0,t1,t2,t3,t4,t5⟩,f0,f1,f2,f3,f4,f5⟩:=kB.facts6
          refine wpAnyH_ready (rs:=[9]) (by kernel_rfl) (by simp) ?_
          refine AllReadyH.cons rfl (fun K hK=>?_) AllReadyH.nil
          simp only [List.getElem_toArray,List.getElem_cons_succ,List.getElem_cons_zero]
          go_wp2_with fail
          clear t0 t1 t2 t3 t4 t5 f0 f1 f2 f3 f4 f5
          obtain ⟨V19,hV19⟩:∃ x,x=((((((V18.setCell ⟨V11.heap.size,0,none⟩ (.bool db)).setCell ⟨V11.heap.size,1,none⟩ (.slice dA dn dc)).setCell ⟨V11.heap.size,2,none⟩ (.bool dyb)).setCell ⟨V11.heap.size,3,none⟩ (.slice dyA dyn dyc)).setCell ⟨V11.heap.size,4,none⟩ (.bool dzb)).setCell ⟨V11.heap.size,5,none⟩ (.slice dzA dzn dzc)):=⟨_,rfl⟩
          have zV19:V19.heap.size≤V18.heap.size∧V18.heap.size≤V19.heap.size:=by rw [hV19];simp only [setCell_size];exact ⟨Nat.le_refl _,Nat.le_refl _⟩
          have HV19:Hid (Below W0.heap.size W0 V19):=by rw [hV19];exact below_set6E HV18.out (by omega) _ _ _ _ _ _
          have kB:Box V19 (V11.heap.size) 76 #[.bool db,.slice dA dn dc,.bool dyb,.slice dyA dyn dyc,.bool dzb,.slice dzA dzn dzc]:=by rw [hV19];exact box_new6 kB _ _ _ _ _ _
          have kA:Box V19 (V1.heap.size) 76 #[.bool cb,.slice cA cn cc,.bool cyb,.slice cyA cyn cyc,.bool czb,.slice czA czn czc]:=by rw [hV19];exact box_set6 kA (by omega) _ _ _ _ _ _
          have oc:COwn V19 (W0.heap.size) (V1.heap.size) 3 (.bool cb) (.slice cA cn cc) (.bool cyb) (.slice cyA cyn cyc) (.bool czb) (.slice czA czn czc) (scP pZ.1):=by rw [hV19];exact oc.set6 (by omega)
          have od:COwn V19 (V16.heap.size) (V17.heap.size) 3 (.bool db) (.slice dA dn dc) (.bool dyb) (.slice dyA dyn dyc) (.bool dzb) (.slice dzA dzn dzc) (scP pZ.2):=by rw [hV19];exact od.set6 (by omega)
          rw [←hV19]
          refine hK.out _ _ (HKS.out _ HV19.out) (fun hHeld=>?_)
          clear hK K hV19
          refine wpAnyH_done (by kernel_rfl) ?_ _
          go_wp2_with fail
          go_meet
          case rel=>exact ⟨_,_,_,_,_,_,_,_,_,_,_,_,_,_,rfl,rfl,kA,kB,oc.in_ S1.out (by omega),od.in_ S2.out (by omega),by omega,by omega,HV19.out⟩
    · simp only [List.getElem_toArray,List.getElem_cons_succ,List.getElem_cons_zero]
      go_wp2_with fail
      obtain ⟨V20,hV20⟩:∃ x,x=V1.alloc (.cells #[.bool false,.slice none 0 0,.bool false,.slice none 0 0,.bool false,.slice none 0 0] 76):=⟨_,rfl⟩
      have bV20:Below V1.heap.size V1 V20:=by rw [hV20];exact below_new _ _
      have kV20:Box V20 V1.heap.size 76 #[.bool false,.slice none 0 0,.bool false,.slice none 0 0,.bool false,.slice none 0 0]:=by rw [hV20];exact Box.last _ _ _ rfl
      have zV20:V20.heap.size≤V1.heap.size+1∧V1.heap.size+1≤V20.heap.size:=by rw [hV20,alloc_size];exact ⟨Nat.le_refl _,Nat.le_refl _⟩
      have HV20:=hide (below_then HV1.out bV20)
      have kB:=kV20
      have oc:=oc.below bV20 (by omega)
      rw [←hV20]
      refine hK.out _ _ (HKS.out _ HV20.out) (fun hHeld=>?_)
      clear hK K hV20 bV20 kV20
      refine wpAnyH_ready (rs:=[5,6]) (by kernel_rfl) (by simp) ?_
      refine (AllReadyH.cons rfl (fun K hK=>?_) (AllReadyH.cons rfl (fun K hK=>?_) AllReadyH.nil))
      · simp only [List.getElem_toArray,List.getElem_cons_succ,List.getElem_cons_zero]
        go_simp
        go_at_call 46
        (with_reducible refine Calls.mono (HC2.out _ HV20.out) ?_)
        rintro e V21 ⟨d0,d1',d2',d3,d4,d5,rfl,od,bV21⟩
        obtain ⟨db,dA,dn,dc,dyb,dyA,dyn,dyc,dzb,dzA,dzn,dzc,rfl,rfl,rfl,rfl,rfl,rfl⟩:=od.cut
        have od:COwn V21 V20.heap.size V21.heap.size 3 (.bool db) (.slice dA dn dc) (.bool dyb) (.slice dyA dyn dyc) (.bool dzb) (.slice dzA dzn dzc) (scP pZ.2):=od
        have zV21:V20.heap.size≤V21.heap.size:=bV21.size
        have HV21:=hide (below_then HV20.out bV21)
        have kB:=kB.below bV21 kB.lt
        have oc:=oc.below bV21 (by omega)
        go_wp2_with fail
        refine hK.out _ _ (HKS.out _ HV21.out) (fun hHeld=>?_)
        clear hK K bV21
        refine wpAnyH_ready (rs:=[6]) (by kernel_rfl) (by simp) ?_
        refine (AllReadyH.cons rfl (fun K hK=>?_) AllReadyH.nil)
        · simp only [List.getElem_toArray,List.getElem_cons_succ,List.getElem_cons_zero]
          go_wp2_with fail
          obtain ⟨V22,hV22⟩:∃ x,x=V21.alloc (.cells #[.bool false,.slice none 0 0,.bool false,.slice none 0 0,.bool false,.slice none 0 0] 76):=⟨_,rfl⟩
          have bV22:Below V21.heap.size V21 V22:=by rw [hV22];exact below_new _ _
          have kV22:Box V22 V21.heap.size 76 #[.bool false,.slice none 0 0,.bool false,.slice none 0 0,.bool false,.slice none 0 0]:=by rw [hV22];exact Box.last _ _ _ rfl
          have zV22:V22.heap.size≤V21.heap.size+1∧V21.heap.size+1≤V22.heap.size:=by rw [hV22,alloc_size];exact ⟨Nat.le_refl _,Nat.le_refl _⟩
          have HV22:=hide (below_then HV21.out bV22)
          have kB:=kB.below bV22 kB.lt
          have kA:=kV22
          have oc:=oc.below bV22 (by omega)
          have od:=od.below bV22 (by omega)
          rw [←hV22]
          refine hK.out _ _ (HKS.out _ HV22.out) (fun hHeld=>?_)
          clear hK K hV22 bV22 kV22
          have lA:=kA.lt
          have lB:=kB.lt
          obtain ⟨⟨t0,t1,t2,t3,t4,t5⟩,f0,f1,f2,f3,f4,f5⟩:=kA.facts6
          refine wpAnyH_ready (rs:=[8]) (by kernel_rfl) (by simp) ?_
          refine AllReadyH.cons rfl (fun K hK=>?_) AllReadyH.nil
          simp only [List.getElem_toArray,List.getElem_cons_succ,List.getElem_cons_zero]
          go_wp2_with fail
          clear t0 t1 t2 t3 t4 t5 f0 f1 f2 f3 f4 f5
          obtain ⟨V23,hV23⟩:∃ x,x=((((((V22.setCell ⟨V21.heap.size,0,none⟩ (.bool cb)).setCell ⟨V21.heap.size,1,none⟩ (.slice cA cn cc)).setCell ⟨V21.heap.size,2,none⟩ (.bool cyb)).setCell ⟨V21.heap.size,3,none⟩ (.slice cyA cyn cyc)).setCell ⟨V21.heap.size,4,none⟩ (.bool czb)).setCell ⟨V21.heap.size,5,none⟩ (.slice czA czn czc)):=⟨_,rfl⟩
          have zV23:V23.heap.size≤V22.heap.size∧V22.heap.size≤V23.heap.size:=by rw [hV23];simp only [setCell_size];exact ⟨Nat.le_refl _,Nat.le_refl _⟩
          have HV23:Hid (Below W0.heap.size W0 V23):=by rw [hV23];exact below_set6E HV22.out (by omega) _ _ _ _ _ _
          have kA:Box V23 (V21.heap.size) 76 #[.bool cb,.slice cA cn cc,.bool cyb,.slice cyA cyn cyc,.bool czb,.slice czA czn czc]:=by rw [hV23];exact box_new6 kA _ _ _ _ _ _
          have kB:Box V23 (V1.heap.size) 76 #[.bool false,.slice none 0 0,.bool false,.slice none 0 0,.bool false,.slice none 0 0]:=by rw [hV23];exact box_set6 kB (by omega) _ _ _ _ _ _
          have oc:COwn V23 (W0.heap.size) (V1.heap.size) 3 (.bool cb) (.slice cA cn cc) (.bool cyb) (.slice cyA cyn cyc) (.bool czb) (.slice czA czn czc) (scP pZ.1):=by rw [hV23];exact oc.set6 (by omega)
          have od:COwn V23 (V20.heap.size) (V21.heap.size) 3 (.bool db) (.slice dA dn dc) (.bool dyb) (.slice dyA dyn dyc) (.bool dzb) (.slice dzA dzn dzc) (scP pZ.2):=by rw [hV23];exact od.set6 (by omega)
          rw [←hV23]
          refine hK.out _ _ (HKS.out _ HV23.out) (fun hHeld=>?_)
          clear hK K hV23
          obtain ⟨⟨t0,t1,t2,t3,t4,t5⟩,f0,f1,f2,f3,f4,f5⟩:=kB.facts6
          refine wpAnyH_ready (rs:=[9]) (by kernel_rfl) (by simp) ?_
          refine AllReadyH.cons rfl (fun K hK=>?_) AllReadyH.nil
          simp only [List.getElem_toArray,List.getElem_cons_succ,List.getElem_cons_zero]
          go_wp2_with fail
          clear t0 t1 t2 t3 t4 t5 f0 f1 f2 f3 f4 f5
          obtain ⟨V24,hV24⟩:∃ x,x=((((((V23.setCell ⟨V1.heap.size,0,none⟩ (.bool db)).setCell ⟨V1.heap.size,1,none⟩ (.slice dA dn dc)).setCell ⟨V1.heap.size,2,none⟩ (.bool dyb)).setCell ⟨V1.heap.size,3,none⟩ (.slice dyA dyn dyc)).setCell ⟨V1.heap.size,4,none⟩ (.bool dzb)).setCell ⟨V1.heap.size,5,none⟩ (.slice dzA dzn dzc)):=⟨_,rfl⟩
          have zV24:V24.heap.size≤V23.heap.size∧V23.heap.size≤V24.heap.size:=by rw [hV24];simp only [setCell_size];exact ⟨Nat.le_refl _,Nat.le_refl _⟩
          have HV24:Hid (Below W0.heap.size W0 V24):=by rw [hV24];exact below_set6E HV23.out (by omega) _ _ _ _ _ _
          have kB:Box V24 (V1.heap.size) 76 #[.bool db,.slice dA dn dc,.bool dyb,.slice dyA dyn dyc,.bool dzb,.slice dzA dzn dzc]:=by rw [hV24];exact box_new6 kB _ _ _ _ _ _
          have kA:Box V24 (V21.heap.size) 76 #[.bool cb,.slice cA cn cc,.bool cyb,.slice cyA cyn cyc,.bool czb,.slice czA czn czc]:=by rw [hV24];exact box_set6 kA (by omega) _ _ _ _ _ _
          have oc:COwn V24 (W0.heap.size) (V1.heap.size) 3 (.bool cb) (.slice cA cn cc) (.bool cyb) (.slice cyA cyn cyc) (.bool czb) (.slice czA czn czc) (scP pZ.1):=by rw [hV24];exact oc.set6 (by omega)
          have od:COwn V24 (V20.heap.size) (V21.heap.size) 3 (.bool db) (.slice dA dn dc) (.bool dyb) (.slice dyA dyn dyc) (.bool dzb) (.slice dzA dzn dzc) (scP pZ.2):=by rw [hV24];exact od.set6 (by omega)
          rw [←hV24]
          refine hK.out _ _ (HKS.out _ HV24.out) (fun hHeld=>?_)
          clear hK K hV24
          refine wpAnyH_done (by kernel_rfl) ?_ _
          go_wp2_with fail
          go_meet
          case rel=>exact ⟨_,_,_,_,_,_,_,_,_,_,_,_,_,_,rfl,rfl,kA,kB,oc.in_ S1.out (by omega),od.in_ S2.out (by omega),by omega,by omega,HV24.out⟩
      · simp only [List.getElem_toArray,List.getElem_cons_succ,List.getElem_cons_zero]
        go_wp2_with fail
        obtain ⟨V25,hV25⟩:∃ x,x=V20.alloc (.cells #[.bool false,.slice none 0 0,.bool false,.slice none 0 0,.bool false,.slice none 0 0] 76):=⟨_,rfl⟩
        have bV25:Below V20.heap.size V20 V25:=by rw [hV25];exact below_new _ _
        have kV25:Box V25 V20.heap.size 76 #[.bool false,.slice none 0 0,.bool false,.slice none 0 0,.bool false,.slice none 0 0]:=by rw [hV25];exact Box.last _ _ _ rfl
        have zV25:V25.heap.size≤V20.heap.size+1∧V20.heap.size+1≤V25.heap.size:=by rw [hV25,alloc_size];exact ⟨Nat.le_refl _,Nat.le_refl _⟩
        have HV25:=hide (below_then HV20.out bV25)
        have kB:=kB.below bV25 kB.lt
        have kA:=kV25
        have oc:=oc.below bV25 (by omega)
        rw [←hV25]
        refine hK.out _ _ (HKS.out _ HV25.out) (fun hHeld=>?_)
        clear hK K hV25 bV25 kV25
        refine wpAnyH_ready (rs:=[5]) (by kernel_rfl) (by simp) ?_
        refine (AllReadyH.cons rfl (fun K hK=>?_) AllReadyH.nil)
        · simp only [List.getElem_toArray,List.getElem_cons_succ,List.getElem_cons_zero]
          go_simp
          go_at_call 46
          (with_reducible refine Calls.mono (HC2.out _ HV25.out) ?_)
          rintro e V26 ⟨d0,d1',d2',d3,d4,d5,rfl,od,bV26⟩
          obtain ⟨db,dA,dn,dc,dyb,dyA,dyn,dyc,dzb,dzA,dzn,dzc,rfl,rfl,rfl,rfl,rfl,rfl⟩:=od.cut
          have od:COwn V26 V25.heap.size V26.heap.size 3 (.bool db) (.slice dA dn dc) (.bool dyb) (.slice dyA dyn dyc) (.bool dzb) (.slice dzA dzn dzc) (scP pZ.2):=od
          have zV26:V25.heap.size≤V26.heap.size:=bV26.size
          have HV26:=hide (below_then HV25.out bV26)
          have kA:=kA.below bV26 kA.lt
          have kB:=kB.below bV26 kB.lt
          have oc:=oc.below bV26 (by omega)
          go_wp2_with fail
          refine hK.out _ _ (HKS.out _ HV26.out) (fun hHeld=>?_)
          clear hK K bV26
          have lA:=kA.lt
          have lB:=kB.lt
          obtain ⟨⟨t0,t1,t2,t3,t4,t5⟩,f0,f1,f2,f3,f4,f5⟩:=kA.facts6
          refine wpAnyH_ready (rs:=[8]) (by kernel_rfl) (by simp) ?_
          refine AllReadyH.cons rfl (fun K hK=>?_) AllReadyH.nil
          simp only [List.getElem_toArray,List.getElem_cons_succ,List.getElem_cons_zero]
          go_wp2_with fail
          clear t0 t1 t2 t3 t4 t5 f0 f1 f2 f3 f4 f5
          obtain ⟨V27,hV27⟩:∃ x,x=((((((V26.setCell ⟨V20.heap.size,0,none⟩ (.bool cb)).setCell ⟨V20.heap.size,1,none⟩ (.slice cA cn cc)).setCell ⟨V20.heap.size,2,none⟩ (.bool cyb)).setCell ⟨V20.heap.size,3,none⟩ (.slice cyA cyn cyc)).setCell ⟨V20.heap.size,4,none⟩ (.bool czb)).setCell ⟨V20.heap.size,5,none⟩ (.slice czA czn czc)):=⟨_,rfl⟩
          have zV27:V27.heap.size≤V26.heap.size∧V26.heap.size≤V27.heap.size:=by rw [hV27];simp only [setCell_size];exact ⟨Nat.le_refl _,Nat.le_refl _⟩
          have HV27:Hid (Below W0.heap.size W0 V27):=by rw [hV27];exact below_set6E HV26.out (by omega) _ _ _ _ _ _
          have kA:Box V27 (V20.heap.size) 76 #[.bool cb,.slice cA cn cc,.bool cyb,.slice cyA cyn cyc,.bool czb,.slice czA czn czc]:=by rw [hV27];exact box_new6 kA _ _ _ _ _ _
          have kB:Box V27 (V1.heap.size) 76 #[.bool false,.slice none 0 0,.bool false,.slice none 0 0,.bool false,.slice none 0 0]:=by rw [hV27];exact box_set6 kB (by omega) _ _ _ _ _ _
          have oc:COwn V27 (W0.heap.size) (V1.heap.size) 3 (.bool cb) (.slice cA cn cc) (.bool cyb) (.slice cyA cyn cyc) (.bool czb) (.slice czA czn czc) (scP pZ.1):=by rw [hV27];exact oc.set6 (by omega)
          have od:COwn V27 (V25.heap.size) (V26.heap.size) 3 (.bool db) (.slice dA dn dc) (.bool dyb) (.slice dyA dyn dyc) (.bool dzb) (.slice dzA dzn dzc) (scP pZ.2):=by rw [hV27];exact od.set6 (by omega)
          rw [←hV27]
          refine hK.out _ _ (HKS.out _ HV27.out) (fun hHeld=>?_)
          clear hK K hV27
          obtain ⟨⟨t0,t1,t2,t3,t4,t5⟩,f0,f1,f2,f3,f4,f5⟩:=kB.facts6
          refine wpAnyH_ready (rs:=[9]) (by kernel_rfl) (by simp) ?_
          refine AllReadyH.cons rfl (fun K hK=>?_) AllReadyH.nil
          simp only [List.getElem_toArray,List.getElem_cons_succ,List.getElem_cons_zero]
          go_wp2_with fail
          clear t0 t1 t2 t3 t4 t5 f0 f1 f2 f3 f4 f5
          obtain ⟨V28,hV28⟩:∃ x,x=((((((V27.setCell ⟨V1.heap.size,0,none⟩ (.bool db)).setCell ⟨V1.heap.size,1,none⟩ (.slice dA dn dc)).setCell ⟨V1.heap.size,2,none⟩ (.bool dyb)).setCell ⟨V1.heap.size,3,none⟩ (.slice dyA dyn dyc)).setCell ⟨V1.heap.size,4,none⟩ (.bool dzb)).setCell ⟨V1.heap.size,5,none⟩ (.slice dzA dzn dzc)):=⟨_,rfl⟩
          have zV28:V28.heap.size≤V27.heap.size∧V27.heap.size≤V28.heap.size:=by rw [hV28];simp only [setCell_size];exact ⟨Nat.le_refl _,Nat.le_refl _⟩
          have HV28:Hid (Below W0.heap.size W0 V28):=by rw [hV28];exact below_set6E HV27.out (by omega) _ _ _ _ _ _
          have kB:Box V28 (V1.heap.size) 76 #[.bool db,.slice dA dn dc,.bool dyb,.slice dyA dyn dyc,.bool dzb,.slice dzA dzn dzc]:=by rw [hV28];exact box_new6 kB _ _ _ _ _ _
          have kA:Box V28 (V20.heap.size) 76 #[.bool cb,.slice cA cn cc,.bool cyb,.slice cyA cyn cyc,.bool czb,.slice czA czn czc]:=by rw [hV28];exact box_set6 kA (by omega) _ _ _ _ _ _
          have oc:COwn V28 (W0.heap.size) (V1.heap.size) 3 (.bool cb) (.slice cA cn cc) (.bool cyb) (.slice cyA cyn cyc) (.bool czb) (.slice czA czn czc) (scP pZ.1):=by rw [hV28];exact oc.set6 (by omega)
          have od:COwn V28 (V25.heap.size) (V26.heap.size) 3 (.bool db) (.slice dA dn dc) (.bool dyb) (.slice dyA dyn dyc) (.bool dzb) (.slice dzA dzn dzc) (scP pZ.2):=by rw [hV28];exact od.set6 (by omega)
          rw [←hV28]
          refine hK.out _ _ (HKS.out _ HV28.out) (fun hHeld=>?_)
          clear hK K hV28
          refine wpAnyH_done (by kernel_rfl) ?_ _
          go_wp2_with fail
          go_meet
          case rel=>exact ⟨_,_,_,_,_,_,_,_,_,_,_,_,_,_,rfl,rfl,kA,kB,oc.in_ S1.out (by omega),od.in_ S2.out (by omega),by omega,by omega,HV28.out⟩
  · simp only [List.getElem_toArray,List.getElem_cons_succ,List.getElem_cons_zero]
    go_wp2_with fail
    obtain ⟨V29,hV29⟩:∃ x,x=(W0.alloc (.cells #[.bool false,.slice none 0 0,.bool false,.slice none 0 0,.bool false,.slice none 0 0] 76)).drew:=⟨_,rfl⟩
    have bV29:Below W0.heap.size W0 V29:=by rw [hV29];exact (below_new _ _).drew
    have kV29:Box V29 W0.heap.size 76 #[.bool false,.slice none 0 0,.bool false,.slice none 0 0,.bool false,.slice none 0 0]:=by rw [hV29];exact (Box.last _ _ _ rfl).drew
    have zV29:V29.heap.size≤W0.heap.size+1∧W0.heap.size+1≤V29.heap.size:=by rw [hV29,drew_size,alloc_size];exact ⟨Nat.le_refl _,Nat.le_refl _⟩
    have HV29:=hide bV29
    have kA:=kV29
    rw [←hV29]
    refine hK.out _ _ (HKS.out _ HV29.out) (fun hHeld=>?_)
    clear hK K hV29 bV29 kV29
    refine wpAnyH_ready (rs:=[2,7]) (by kernel_rfl) (by simp) ?_
    refine (AllReadyH.cons rfl (fun K hK=>?_) (AllReadyH.cons rfl (fun K hK=>?_) AllReadyH.nil))
    · simp only [List.getElem_toArray,List.getElem_cons_succ,List.getElem_cons_zero]
      go_simp
      go_at_call 46
      (with_reducible refine Calls.mono (HC1.out _ HV29.out) ?_)
      rintro e V30 ⟨c0,c1',c2',c3,c4,c5,rfl,oc,bV30⟩
      obtain ⟨cb,cA,cn,cc,cyb,cyA,cyn,cyc,czb,czA,czn,czc,rfl,rfl,rfl,rfl,rfl,rfl⟩:=oc.cut
      have oc:COwn V30 V29.heap.size V30.heap.size 3 (.bool cb) (.slice cA cn cc) (.bool cyb) (.slice cyA cyn cyc) (.bool czb) (.slice czA czn czc) (scP pZ.1):=oc
      have zV30:V29.heap.size≤V30.heap.size:=bV30.size
      have HV30:=hide (below_then HV29.out bV30)
      have kA:=kA.below bV30 kA.lt
      go_wp2_with fail
      refine hK.out _ _ (HKS.out _ HV30.out) (fun hHeld=>?_)
      clear hK K bV30
      refine wpAnyH_ready (rs:=[5,7]) (by kernel_rfl) (by simp) ?_
      refine (AllReadyH.cons rfl (fun K hK=>?_) (AllReadyH.cons rfl (fun K hK=>?_) AllReadyH.nil))
      · simp only [List.getElem_toArray,List.getElem_cons_succ,List.getElem_cons_zero]
        go_simp
        go_at_call 46
        (with_reducible refine Calls.mono (HC2.out _ HV30.out) ?_)
        rintro e V31 ⟨d0,d1',d2',d3,d4,d5,rfl,od,bV31⟩
        obtain ⟨db,dA,dn,dc,dyb,dyA,dyn,dyc,dzb,dzA,dzn,dzc,rfl,rfl,rfl,rfl,rfl,rfl⟩:=od.cut
        have od:COwn V31 V30.heap.size V31.heap.size 3 (.bool db) (.slice dA dn dc) (.bool dyb) (.slice dyA dyn dyc) (.bool dzb) (.slice dzA dzn dzc) (scP pZ.2):=od
        have zV31:V30.heap.size≤V31.heap.size:=bV31.size
        have HV31:=hide (below_then HV30.out bV31)
        have kA:=kA.below bV31 kA.lt
        have oc:=oc.below bV31 (by omega)
        go_wp2_with fail
        refine hK.out _ _ (HKS.out _ HV31.out) (fun hHeld=>?_)
        clear hK K bV31
        refine wpAnyH_ready (rs:=[7]) (by kernel_rfl) (by simp) ?_
        refine (AllReadyH.cons rfl (fun K hK=>?_) AllReadyH.nil)
        · simp only [List.getElem_toArray,List.getElem_cons_succ,List.getElem_cons_zero]
          go_wp2_with fail
          obtain ⟨V32,hV32⟩:∃ x,x=V31.alloc (.cells #[.bool false,.slice none 0 0,.bool false,.slice none 0 0,.bool false,.slice none 0 0] 76):=⟨_,rfl⟩
          have bV32:Below V31.heap.size V31 V32:=by rw [hV32];exact below_new _ _
          have kV32:Box V32 V31.heap.size 76 #[.bool false,.slice none 0 0,.bool false,.slice none 0 0,.bool false,.slice none 0 0]:=by rw [hV32];exact Box.last _ _ _ rfl
          have zV32:V32.heap.size≤V31.heap.size+1∧V31.heap.size+1≤V32.heap.size:=by rw [hV32,alloc_size];exact ⟨Nat.le_refl _,Nat.le_refl _⟩
          have HV32:=hide (below_then HV31.out bV32)
          have kA:=kA.below bV32 kA.lt
          have kB:=kV32
          have oc:=oc.below bV32 (by omega)
          have od:=od.below bV32 (by omega)
          rw [←hV32]
          refine hK.out _ _ (HKS.out _ HV32.out) (fun hHeld=>?_)
          clear hK K hV32 bV32 kV32
          have lA:=kA.lt
          have lB:=kB.lt
          obtain ⟨⟨t0,t1,t2,t3,t4,t5⟩,f0,f1,f2,f3,f4,f5⟩:=kA.facts6
          refine wpAnyH_ready (rs:=[8]) (by kernel_rfl) (by simp) ?_
          refine AllReadyH.cons rfl (fun K hK=>?_) AllReadyH.nil
          simp only [List.getElem_toArray,List.getElem_cons_succ,List.getElem_cons_zero]
          go_wp2_with fail
          clear t0 t1 t2 t3 t4 t5 f0 f1 f2 f3 f4 f5
          obtain ⟨V33,hV33⟩:∃ x,x=((((((V32.setCell ⟨W0.heap.size,0,none⟩ (.bool cb)).setCell ⟨W0.heap.size,1,none⟩ (.slice cA cn cc)).setCell ⟨W0.heap.size,2,none⟩ (.bool cyb)).setCell ⟨W0.heap.size,3,none⟩ (.slice cyA cyn cyc)).setCell ⟨W0.heap.size,4,none⟩ (.bool czb)).setCell ⟨W0.heap.size,5,none⟩ (.slice czA czn czc)):=⟨_,rfl⟩
          have zV33:V33.heap.size≤V32.heap.size∧V32.heap.size≤V33.heap.size:=by rw [hV33];simp only [setCell_size];exact ⟨Nat.le_refl _,Nat.le_refl _⟩
          have HV33:Hid (Below W0.heap.size W0 V33):=by rw [hV33];exact below_set6E HV32.out (by omega) _ _ _ _ _ _
          have kA:Box V33 (W0.heap.size) 76 #[.bool cb,.slice cA cn cc,.bool cyb,.slice cyA cyn cyc,.bool czb,.slice czA czn czc]:=by rw [hV33];exact box_new6 kA _ _ _ _ _ _
          have kB:Box V33 (V31.heap.size) 76 #[.bool false,.slice none 0 0,.bool false,.slice none 0 0,.bool false,.slice none 0 0]:=by rw [hV33];exact box_set6 kB (by omega) _ _ _ _ _ _
          have oc:COwn V33 (V29.heap.size) (V30.heap.size) 3 (.bool cb) (.slice cA cn cc) (.bool cyb) (.slice cyA cyn cyc) (.bool czb) (.slice czA czn czc) (scP pZ.1):=by rw [hV33];exact oc.set6 (by omega)
          have od:COwn V33 (V30.heap.size) (V31.heap.size) 3 (.bool db) (.slice dA dn dc) (.bool dyb) (.slice dyA dyn dyc) (.bool dzb) (.slice dzA dzn dzc) (scP pZ.2):=by rw [hV33];exact od.set6 (by omega)
          rw [←hV33]
          refine hK.out _ _ (HKS.out _ HV33.out) (fun hHeld=>?_)
          clear hK K hV33
          obtain ⟨⟨t0,t1,t2,t3,t4,t5⟩,f0,f1,f2,f3,f4,f5⟩:=kB.facts6
          refine wpAnyH_ready (rs:=[9]) (by kernel_rfl) (by simp) ?_
          refine AllReadyH.cons rfl (fun K hK=>?_) AllReadyH.nil
          simp only [List.getElem_toArray,List.getElem_cons_succ,List.getElem_cons_zero]
          go_wp2_with fail
          clear t0 t1 t2 t3 t4 t5 f0 f1 f2 f3 f4 f5
          obtain ⟨V34,hV34⟩:∃ x,x=((((((V33.setCell ⟨V31.heap.size,0,none⟩ (.bool db)).setCell ⟨V31.heap.size,1,none⟩ (.slice dA dn dc)).setCell ⟨V31.heap.size,2,none⟩ (.bool dyb)).setCell ⟨V31.heap.size,3,none⟩ (.slice dyA dyn dyc)).setCell ⟨V31.heap.size,4,none⟩ (.bool dzb)).setCell ⟨V31.heap.size,5,none⟩ (.slice dzA dzn dzc)):=⟨_,rfl⟩
          have zV34:V34.heap.size≤V33.heap.size∧V33.heap.size≤V34.heap.size:=by rw [hV34];simp only [setCell_size];exact ⟨Nat.le_refl _,Nat.le_refl _⟩
          have HV34:Hid (Below W0.heap.size W0 V34):=by rw [hV34];exact below_set6E HV33.out (by omega) _ _ _ _ _ _
          have kB:Box V34 (V31.heap.size) 76 #[.bool db,.slice dA dn dc,.bool dyb,.slice dyA dyn dyc,.bool dzb,.slice dzA dzn dzc]:=by rw [hV34];exact box_new6 kB _ _ _ _ _ _
          have kA:Box V34 (W0.heap.size) 76 #[.bool cb,.slice cA cn cc,.bool cyb,.slice cyA cyn cyc,.bool czb,.slice czA czn czc]:=by rw [hV34];exact box_set6 kA (by omega) _ _ _ _ _ _
          have oc:COwn V34 (V29.heap.size) (V30.heap.size) 3 (.bool cb) (.slice cA cn cc) (.bool cyb) (.slice cyA cyn cyc) (.bool czb) (.slice czA czn czc) (scP pZ.1):=by rw [hV34];exact oc.set6 (by omega)
          have od:COwn V34 (V30.heap.size) (V31.heap.size) 3 (.bool db) (.slice dA dn dc) (.bool dyb) (.slice dyA dyn dyc) (.bool dzb) (.slice dzA dzn dzc) (scP pZ.2):=by rw [hV34];exact od.set6 (by omega)
          rw [←hV34]
          refine hK.out _ _ (HKS.out _ HV34.out) (fun hHeld=>?_)
          clear hK K hV34
          refine wpAnyH_done (by kernel_rfl) ?_ _
          go_wp2_with fail
          go_meet
          case rel=>exact ⟨_,_,_,_,_,_,_,_,_,_,_,_,_,_,rfl,rfl,kA,kB,oc.in_ S1.out (by omega),od.in_ S2.out (by omega),by omega,by omega,HV34.out⟩
      · simp only [List.getElem_toArray,List.getElem_cons_succ,List.getElem_cons_zero]
        go_wp2_with fail
        obtain ⟨V35,hV35⟩:∃ x,x=V30.alloc (.cells #[.bool false,.slice none 0 0,.bool false,.slice none 0 0,.bool false,.slice none 0 0] 76):=⟨_,rfl⟩
        have bV35:Below V30.heap.size V30 V35:=by rw [hV35];exact below_new _ _
        have kV35:Box V35 V30.heap.size 76 #[.bool false,.slice none 0 0,.bool false,.slice none 0 0,.bool false,.slice none 0 0]:=by rw [hV35];exact Box.last _ _ _ rfl
        have zV35:V35.heap.size≤V30.heap.size+1∧V30.heap.size+1≤V35.heap.size:=by rw [hV35,alloc_size];exact ⟨Nat.le_refl _,Nat.le_refl _⟩
        have HV35:=hide (below_then HV30.out bV35)
        have kA:=kA.below bV35 kA.lt
        have kB:=kV35
        have oc:=oc.below bV35 (by omega)
        rw [←hV35]
        refine hK.out _ _ (HKS.out _ HV35.out) (fun hHeld=>?_)
        clear hK K hV35 bV35 kV35
        refine wpAnyH_ready (rs:=[5]) (by kernel_rfl) (by simp) ?_
        refine (AllReadyH.cons rfl (fun K hK=>?_) AllReadyH.nil)
        · simp only [List.getElem_toArray,List.getElem_cons_succ,List.getElem_cons_zero]
          go_simp
          go_at_call 46
          (with_reducible refine Calls.mono (HC2.out _ HV35.out) ?_)
          rintro e V36 ⟨d0,d1',d2',d3,d4,d5,rfl,od,bV36⟩
          obtain ⟨db,dA,dn,dc,dyb,dyA,dyn,dyc,dzb,dzA,dzn,dzc,rfl,rfl,rfl,rfl,rfl,rfl⟩:=od.cut
          have od:COwn V36 V35.heap.size V36.heap.size 3 (.bool db) (.slice dA dn dc) (.bool dyb) (.slice dyA dyn dyc) (.bool dzb) (.slice dzA dzn dzc) (scP pZ.2):=od
          have zV36:V35.heap.size≤V36.heap.size:=bV36.size
          have HV36:=hide (below_then HV35.out bV36)
          have kA:=kA.below bV36 kA.lt
          have kB:=kB.below bV36 kB.lt
          have oc:=oc.below bV36 (by omega)
          go_wp2_with fail
          refine hK.out _ _ (HKS.out _ HV36.out) (fun hHeld=>?_)
          clear hK K bV36
          have lA:=kA.lt
          have lB:=kB.lt
          obtain ⟨⟨t0,t1,t2,t3,t4,t5⟩,f0,f1,f2,f3,f4,f5⟩:=kA.facts6
          refine wpAnyH_ready (rs:=[8]) (by kernel_rfl) (by simp) ?_
          refine AllReadyH.cons rfl (fun K hK=>?_) AllReadyH.nil
          simp only [List.getElem_toArray,List.getElem_cons_succ,List.getElem_cons_zero]
          go_wp2_with fail
          clear t0 t1 t2 t3 t4 t5 f0 f1 f2 f3 f4 f5
          obtain ⟨V37,hV37⟩:∃ x,x=((((((V36.setCell ⟨W0.heap.size,0,none⟩ (.bool cb)).setCell ⟨W0.heap.size,1,none⟩ (.slice cA cn cc)).setCell ⟨W0.heap.size,2,none⟩ (.bool cyb)).setCell ⟨W0.heap.size,3,none⟩ (.slice cyA cyn cyc)).setCell ⟨W0.heap.size,4,none⟩ (.bool czb)).setCell ⟨W0.heap.size,5,none⟩ (.slice czA czn czc)):=⟨_,rfl⟩
          have zV37:V37.heap.size≤V36.heap.size∧V36.heap.size≤V37.heap.size:=by rw [hV37];simp only [setCell_size];exact ⟨Nat.le_refl _,Nat.le_refl _⟩
          have HV37:Hid (Below W0.heap.size W0 V37):=by rw [hV37];exact below_set6E HV36.out (by omega) _ _ _ _ _ _
          have kA:Box V37 (W0.heap.size) 76 #[.bool cb,.slice cA cn cc,.bool cyb,.slice cyA cyn cyc,.bool czb,.slice czA czn czc]:=by rw [hV37];exact box_new6 kA _ _ _ _ _ _
          have kB:Box V37 (V30.heap.size) 76 #[.bool false,.slice none 0 0,.bool false,.slice none 0 0,.bool false,.slice none 0 0]:=by rw [hV37];exact box_set6 kB (by omega) _ _ _ _ _ _
          have oc:COwn V37 (V29.heap.size) (V30.heap.size) 3 (.bool cb) (.slice cA cn cc) (.bool cyb) (.slice cyA cyn cyc) (.bool czb) (.slice czA czn czc) (scP pZ.1):=by rw [hV37];exact oc.set6 (by omega)
          have od:COwn V37 (V35.heap.size) (V36.heap.size) 3 (.bool db) (.slice dA dn dc) (.bool dyb) (.slice dyA dyn dyc) (.bool dzb) (.slice dzA dzn dzc) (scP pZ.2):=by rw [hV37];exact od.set6 (by omega)
          rw [←hV37]
          refine hK.out _ _ (HKS.out _ HV37.out) (fun hHeld=>?_)
          clear hK K hV37
          obtain ⟨⟨t0,t1,t2,t3,t4,t5⟩,f0,f1,f2,f3,f4,f5⟩:=kB.facts6
          refine wpAnyH_ready (rs:=[9]) (by kernel_rfl) (by simp) ?_
          refine AllReadyH.cons rfl (fun K hK=>?_) AllReadyH.nil
          simp only [List.getElem_toArray,List.getElem_cons_succ,List.getElem_cons_zero]
          go_wp2_with fail
          clear t0 t1 t2 t3 t4 t5 f0 f1 f2 f3 f4 f5
          obtain ⟨V38,hV38⟩:∃ x,x=((((((V37.setCell ⟨V30.heap.size,0,none⟩ (.bool db)).setCell ⟨V30.heap.size,1,none⟩ (.slice dA dn dc)).setCell ⟨V30.heap.size,2,none⟩ (.bool dyb)).setCell ⟨V30.heap.size,3,none⟩ (.slice dyA dyn dyc)).setCell ⟨V30.heap.size,4,none⟩ (.bool dzb)).setCell ⟨V30.heap.size,5,none⟩ (.slice dzA dzn dzc)):=⟨_,rfl⟩
          have zV38:V38.heap.size≤V37.heap.size∧V37.heap.size≤V38.heap.size:=by rw [hV38];simp only [setCell_size];exact ⟨Nat.le_refl _,Nat.le_refl _⟩
          have HV38:Hid (Below W0.heap.size W0 V38):=by rw [hV38];exact below_set6E HV37.out (by omega) _ _ _ _ _ _
          have kB:Box V38 (V30.heap.size) 76 #[.bool db,.slice dA dn dc,.bool dyb,.slice dyA dyn dyc,.bool dzb,.slice dzA dzn dzc]:=by rw [hV38];exact box_new6 kB _ _ _ _ _ _
          have kA:Box V38 (W0.heap.size) 76 #[.bool cb,.slice cA cn cc,.bool cyb,.slice cyA cyn cyc,.bool czb,.slice czA czn czc]:=by rw [hV38];exact box_set6 kA (by omega) _ _ _ _ _ _
          have oc:COwn V38 (V29.heap.size) (V30.heap.size) 3 (.bool cb) (.slice cA cn cc) (.bool cyb) (.slice cyA cyn cyc) (.bool czb) (.slice czA czn czc) (scP pZ.1):=by rw [hV38];exact oc.set6 (by omega)
          have od:COwn V38 (V35.heap.size) (V36.heap.size) 3 (.bool db) (.slice dA dn dc) (.bool dyb) (.slice dyA dyn dyc) (.bool dzb) (.slice dzA dzn dzc) (scP pZ.2):=by rw [hV38];exact od.set6 (by omega)
          rw [←hV38]
          refine hK.out _ _ (HKS.out _ HV38.out) (fun hHeld=>?_)
          clear hK K hV38
          refine wpAnyH_done (by kernel_rfl) ?_ _
          go_wp2_with fail
          go_meet
          case rel=>exact ⟨_,_,_,_,_,_,_,_,_,_,_,_,_,_,rfl,rfl,kA,kB,oc.in_ S1.out (by omega),od.in_ S2.out (by omega),by omega,by omega,HV38.out⟩
    · simp only [List.getElem_toArray,List.getElem_cons_succ,List.getElem_cons_zero]
      go_wp2_with fail
      obtain ⟨V39,hV39⟩:∃ x,x=V29.alloc (.cells #[.bool false,.slice none 0 0,.bool false,.slice none 0 0,.bool false,.slice none 0 0] 76):=⟨_,rfl⟩
      have bV39:Below V29.heap.size V29 V39:=by rw [hV39];exact below_new _ _
      have kV39:Box V39 V29.heap.size 76 #[.bool false,.slice none 0 0,.bool false,.slice none 0 0,.bool false,.slice none 0 0]:=by rw [hV39];exact Box.last _ _ _ rfl
      have zV39:V39.heap.size≤V29.heap.size+1∧V29.heap.size+1≤V39.heap.size:=by rw [hV39,alloc_size];exact ⟨Nat.le_refl _,Nat.le_refl _⟩
      have HV39:=hide (below_then HV29.out bV39)
      have kA:=kA.below bV39 kA.lt
      have kB:=kV39
      rw [←hV39]
      refine hK.out _ _ (HKS.out _ HV39.out) (fun hHeld=>?_)
      clear hK K hV39 bV39 kV39
      refine wpAnyH_ready (rs:=[2]) (by kernel_rfl) (by simp) ?_
      refine (AllReadyH.cons rfl (fun K hK=>?_) AllReadyH.nil)
      · simp only [List.getElem_toArray,List.getElem_cons_succ,List.getElem_cons_zero]
        go_simp
        go_at_call 46
        (with_reducible refine Calls.mono (HC1.out _ HV39.out) ?_)
        rintro e V40 ⟨c0,c1',c2',c3,c4,c5,rfl,oc,bV40⟩
        obtain ⟨cb,cA,cn,cc,cyb,cyA,cyn,cyc,czb,czA,czn,czc,rfl,rfl,rfl,rfl,rfl,rfl⟩:=oc.cut
        have oc:COwn V40 V39.heap.size V40.heap.size 3 (.bool cb) (.slice cA cn cc) (.bool cyb) (.slice cyA cyn cyc) (.bool czb) (.slice czA czn czc) (scP pZ.1):=oc
        have zV40:V39.heap.size≤V40.heap.size:=bV40.size
        have HV40:=hide (below_then HV39.out bV40)
        have kA:=kA.below bV40 kA.lt
        have kB:=kB.below bV40 kB.lt
        go_wp2_with fail
        refine hK.out _ _ (HKS.out _ HV40.out) (fun hHeld=>?_)
        clear hK K bV40
        refine wpAnyH_ready (rs:=[5]) (by kernel_rfl) (by simp) ?_
        refine (AllReadyH.cons rfl (fun K hK=>?_) AllReadyH.nil)
        · simp only [List.getElem_toArray,List.getElem_cons_succ,List.getElem_cons_zero]
          go_simp
          go_at_call 46
          (with_reducible refine Calls.mono (HC2.out _ HV40.out) ?_)
          rintro e V41 ⟨d0,d1',d2',d3,d4,d5,rfl,od,bV41⟩
          obtain ⟨db,dA,dn,dc,dyb,dyA,dyn,dyc,dzb,dzA,dzn,dzc,rfl,rfl,rfl,rfl,rfl,rfl⟩:=od.cut
          have od:COwn V41 V40.heap.size V41.heap.size 3 (.bool db) (.slice dA dn dc) (.bool dyb) (.slice dyA dyn dyc) (.bool dzb) (.slice dzA dzn dzc) (scP pZ.2):=od
          have zV41:V40.heap.size≤V41.heap.size:=bV41.size
          have HV41:=hide (below_then HV40.out bV41)
          have kA:=kA.below bV41 kA.lt
          have kB:=kB.below bV41 kB.lt
          have oc:=oc.below bV41 (by omega)
          go_wp2_with fail
          refine hK.out _ _ (HKS.out _ HV41.out) (fun hHeld=>?_)
          clear hK K bV41
          have lA:=kA.lt
          have lB:=kB.lt
          obtain ⟨⟨t0,t1,t2,t3,t4,t5⟩,f0,f1,f2,f3,f4,f5⟩:=kA.facts6
          refine wpAnyH_ready (rs:=[8]) (by kernel_rfl) (by simp) ?_
          refine AllReadyH.cons rfl (fun K hK=>?_) AllReadyH.nil
          simp only [List.getElem_toArray,List.getElem_cons_succ,List.getElem_cons_zero]
          go_wp2_with fail
          clear t0 t1 t2 t3 t4 t5 f0 f1 f2 f3 f4 f5
          obtain ⟨V42,hV42⟩:∃ x,x=((((((V41.setCell ⟨W0.heap.size,0,none⟩ (.bool cb)).setCell ⟨W0.heap.size,1,none⟩ (.slice cA cn cc)).setCell ⟨W0.heap.size,2,none⟩ (.bool cyb)).setCell ⟨W0.heap.size,3,none⟩ (.slice cyA cyn cyc)).setCell ⟨W0.heap.size,4,none⟩ (.bool czb)).setCell ⟨W0.heap.size,5,none⟩ (.slice czA czn czc)):=⟨_,rfl⟩
          have zV42:V42.heap.size≤V41.heap.size∧V41.heap.size≤V42.heap.size:=by rw [hV42];simp only [setCell_size];exact ⟨Nat.le_refl _,Nat.le_refl _⟩
          have HV42:Hid (Below W0.heap.size W0 V42):=by rw [hV42];exact below_set6E HV41.out (by omega) _ _ _ _ _ _
          have kA:Box V42 (W0.heap.size) 76 #[.bool cb,.slice cA cn cc,.bool cyb,.slice cyA cyn cyc,.bool czb,.slice czA czn czc]:=by rw [hV42];exact box_new6 kA _ _ _ _ _ _
          have kB:Box V42 (V29.heap.size) 76 #[.bool false,.slice none 0 0,.bool false,.slice none 0 0,.bool false,.slice none 0 0]:=by rw [hV42];exact box_set6 kB (by omega) _ _ _ _ _ _
          have oc:COwn V42 (V39.heap.size) (V40.heap.size) 3 (.bool cb) (.slice cA cn cc) (.bool cyb) (.slice cyA cyn cyc) (.bool czb) (.slice czA czn czc) (scP pZ.1):=by rw [hV42];exact oc.set6 (by omega)
          have od:COwn V42 (V40.heap.size) (V41.heap.size) 3 (.bool db) (.slice dA dn dc) (.bool dyb) (.slice dyA dyn dyc) (.bool dzb) (.slice dzA dzn dzc) (scP pZ.2):=by rw [hV42];exact od.set6 (by omega)
          rw [←hV42]
          refine hK.out _ _ (HKS.out _ HV42.out) (fun hHeld=>?_)
          clear hK K hV42
          obtain ⟨⟨t0,t1,t2,t3,t4,t5⟩,f0,f1,f2,f3,f4,f5⟩:=kB.facts6
          refine wpAnyH_ready (rs:=[9]) (by kernel_rfl) (by simp) ?_
          refine AllReadyH.cons rfl (fun K hK=>?_) AllReadyH.nil
          simp only [List.getElem_toArray,List.getElem_cons_succ,List.getElem_cons_zero]
          go_wp2_with fail
          clear t0 t1 t2 t3 t4 t5 f0 f1 f2 f3 f4 f5
          obtain ⟨V43,hV43⟩:∃ x,x=((((((V42.setCell ⟨V29.heap.size,0,none⟩ (.bool db)).setCell ⟨V29.heap.size,1,none⟩ (.slice dA dn dc)).setCell ⟨V29.heap.size,2,none⟩ (.bool dyb)).setCell ⟨V29.heap.size,3,none⟩ (.slice dyA dyn dyc)).setCell ⟨V29.heap.size,4,none⟩ (.bool dzb)).setCell ⟨V29.heap.size,5,none⟩ (.slice dzA dzn dzc)):=⟨_,rfl⟩
          have zV43:V43.heap.size≤V42.heap.size∧V42.heap.size≤V43.heap.size:=by rw [hV43];simp only [setCell_size];exact ⟨Nat.le_refl _,Nat.le_refl _⟩
          have HV43:Hid (Below W0.heap.size W0 V43):=by rw [hV43];exact below_set6E HV42.out (by omega) _ _ _ _ _ _
          have kB:Box V43 (V29.heap.size) 76 #[.bool db,.slice dA dn dc,.bool dyb,.slice dyA dyn dyc,.bool dzb,.slice dzA dzn dzc]:=by rw [hV43];exact box_new6 kB _ _ _ _ _ _
          have kA:Box V43 (W0.heap.size) 76 #[.bool cb,.slice cA cn cc,.bool cyb,.slice cyA cyn cyc,.bool czb,.slice czA czn czc]:=by rw [hV43];exact box_set6 kA (by omega) _ _ _ _ _ _
          have oc:COwn V43 (V39.heap.size) (V40.heap.size) 3 (.bool cb) (.slice cA cn cc) (.bool cyb) (.slice cyA cyn cyc) (.bool czb) (.slice czA czn czc) (scP pZ.1):=by rw [hV43];exact oc.set6 (by omega)
          have od:COwn V43 (V40.heap.size) (V41.heap.size) 3 (.bool db) (.slice dA dn dc) (.bool dyb) (.slice dyA dyn dyc) (.bool dzb) (.slice dzA dzn dzc) (scP pZ.2):=by rw [hV43];exact od.set6 (by omega)
          rw [←hV43]
          refine hK.out _ _ (HKS.out _ HV43.out) (fun hHeld=>?_)
          clear hK K hV43
          refine wpAnyH_done (by kernel_rfl) ?_ _
          go_wp2_with fail
          go_meet
          case rel=>exact ⟨_,_,_,_,_,_,_,_,_,_,_,_,_,_,rfl,rfl,kA,kB,oc.in_ S1.out (by omega),od.in_ S2.out (by omega),by omega,by omega,HV43.out⟩
  · simp only [List.getElem_toArray,List.getElem_cons_succ,List.getElem_cons_zero]
    go_wp2_with fail
    obtain ⟨V44,hV44⟩:∃ x,x=(W0.alloc (.cells #[.bool false,.slice none 0 0,.bool false,.slice none 0 0,.bool false,.slice none 0 0] 76)).drew:=⟨_,rfl⟩
    have bV44:Below W0.heap.size W0 V44:=by rw [hV44];exact (below_new _ _).drew
    have kV44:Box V44 W0.heap.size 76 #[.bool false,.slice none 0 0,.bool false,.slice none 0 0,.bool false,.slice none 0 0]:=by rw [hV44];exact (Box.last _ _ _ rfl).drew
    have zV44:V44.heap.size≤W0.heap.size+1∧W0.heap.size+1≤V44.heap.size:=by rw [hV44,drew_size,alloc_size];exact ⟨Nat.le_refl _,Nat.le_refl _⟩
    have HV44:=hide bV44
    have kB:=kV44
    rw [←hV44]
    refine hK.out _ _ (HKS.out _ HV44.out) (fun hHeld=>?_)
    clear hK K hV44 bV44 kV44
    refine wpAnyH_ready (rs:=[2,6]) (by kernel_rfl) (by simp) ?_
    refine (AllReadyH.cons rfl (fun K hK=>?_) (AllReadyH.cons rfl (fun K hK=>?_) AllReadyH.nil))
    · simp only [List.getElem_toArray,List.getElem_cons_succ,List.getElem_cons_zero]
      go_simp
      go_at_call 46
      (with_reducible refine Calls.mono (HC1.out _ HV44.out) ?_)
      rintro e V45 ⟨c0,c1',c2',c3,c4,c5,rfl,oc,bV45⟩
      obtain ⟨cb,cA,cn,cc,cyb,cyA,cyn,cyc,czb,czA,czn,czc,rfl,rfl,rfl,rfl,rfl,rfl⟩:=oc.cut
      have oc:COwn V45 V44.heap.size V45.heap.size 3 (.bool cb) (.slice cA cn cc) (.bool cyb) (.slice cyA cyn cyc) (.bool czb) (.slice czA czn czc) (scP pZ.1):=oc
      have zV45:V44.heap.size≤V45.heap.size:=bV45.size
      have HV45:=hide (below_then HV44.out bV45)
      have kB:=kB.below bV45 kB.lt
      go_wp2_with fail
      refine hK.out _ _ (HKS.out _ HV45.out) (fun hHeld=>?_)
      clear hK K bV45
      refine wpAnyH_ready (rs:=[5,6]) (by kernel_rfl) (by simp) ?_
      refine (AllReadyH.cons rfl (fun K hK=>?_) (AllReadyH.cons rfl (fun K hK=>?_) AllReadyH.nil))
      · simp only [List.getElem_toArray,List.getElem_cons_succ,List.getElem_cons_zero]
        go_simp
        go_at_call 46
        (with_reducible refine Calls.mono (HC2.out _ HV45.out) ?_)
        rintro e V46 ⟨d0,d1',d2',d3,d4,d5,rfl,od,bV46⟩
        obtain ⟨db,dA,dn,dc,dyb,dyA,dyn,dyc,dzb,dzA,dzn,dzc,rfl,rfl,rfl,rfl,rfl,rfl⟩:=od.cut
        have od:COwn V46 V45.heap.size V46.heap.size 3 (.bool db) (.slice dA dn dc) (.bool dyb) (.slice dyA dyn dyc) (.bool dzb) (.slice dzA dzn dzc) (scP pZ.2):=od
        have zV46:V45.heap.size≤V46.heap.size:=bV46.size
        have HV46:=hide (below_then HV45.out bV46)
        have kB:=kB.below bV46 kB.lt
        have oc:=oc.below bV46 (by omega)
        go_wp2_with fail
        refine hK.out _ _ (HKS.out _ HV46.out) (fun hHeld=>?_)
        clear hK K bV46
        refine wpAnyH_ready (rs:=[6]) (by kernel_rfl) (by simp) ?_
        refine (AllReadyH.cons rfl (fun K hK=>?_) AllReadyH.nil)
        · simp only [List.getElem_toArray,List.getElem_cons_succ,List.getElem_cons_zero]
          go_wp2_with fail
          obtain ⟨V47,hV47⟩:∃ x,x=V46.alloc (.cells #[.bool false,.slice none 0 0,.bool false,.slice none 0 0,.bool false,.slice none 0 0] 76):=⟨_,rfl⟩
          have bV47:Below V46.heap.size V46 V47:=by rw [hV47];exact below_new _ _
          have kV47:Box V47 V46.heap.size 76 #[.bool false,.slice none 0 0,.bool false,.slice none 0 0,.bool false,.slice none 0 0]:=by rw [hV47];exact Box.last _ _ _ rfl
          have zV47:V47.heap.size≤V46.heap.size+1∧V46.heap.size+1≤V47.heap.size:=by rw [hV47,alloc_size];exact ⟨Nat.le_refl _,Nat.le_refl _⟩
          have HV47:=hide (below_then HV46.out bV47)
          have kB:=kB.below bV47 kB.lt
          have kA:=kV47
          have oc:=oc.below bV47 (by omega)
          have od:=od.below bV47 (by omega)
          rw [←hV47]
          refine hK.out _ _ (HKS.out _ HV47.out) (fun hHeld=>?_)
          clear hK K hV47 bV47 kV47
          have lA:=kA.lt
          have lB:=kB.lt
          obtain ⟨⟨t0,t1,t2,t3,t4,t5⟩,f0,f1,f2,f3,f4,f5⟩:=kA.facts6
          refine wpAnyH_ready (rs:=[8]) (by kernel_rfl) (by simp) ?_
          refine AllReadyH.cons rfl (fun K hK=>?_) AllReadyH.nil
          simp only [List.getElem_toArray,List.getElem_cons_succ,List.getElem_cons_zero]
          go_wp2_with fail
          clear t0 t1 t2 t3 t4 t5 f0 f1 f2 f3 f4 f5
          obtain ⟨V48,hV48⟩:∃ x,x=((((((V47.setCell ⟨V46.heap.size,0,none⟩ (.bool cb)).setCell ⟨V46.heap.size,1,none⟩ (.slice cA cn cc)).setCell ⟨V46.heap.size,2,none⟩ (.bool cyb)).setCell ⟨V46.heap.size,3,none⟩ (.slice cyA cyn cyc)).setCell ⟨V46.heap.size,4,none⟩ (.bool czb)).setCell ⟨V46.heap.size,5,none⟩ (.slice czA czn czc)):=⟨_,rfl⟩
          have zV48:V48.heap.size≤V47.heap.size∧V47.heap.size≤V48.heap.size:=by rw [hV48];simp only [setCell_size];exact ⟨Nat.le_refl _,Nat.le_refl _⟩
          have HV48:Hid (Below W0.heap.size W0 V48):=by rw [hV48];exact below_set6E HV47.out (by omega) _ _ _ _ _ _
          have kA:Box V48 (V46.heap.size) 76 #[.bool cb,.slice cA cn cc,.bool cyb,.slice cyA cyn cyc,.bool czb,.slice czA czn czc]:=by rw [hV48];exact box_new6 kA _ _ _ _ _ _
          have kB:Box V48 (W0.heap.size) 76 #[.bool false,.slice none 0 0,.bool false,.slice none 0 0,.bool false,.slice none 0 0]:=by rw [hV48];exact box_set6 kB (by omega) _ _ _ _ _ _
          have oc:COwn V48 (V44.heap.size) (V45.heap.size) 3 (.bool cb) (.slice cA cn cc) (.bool cyb) (.slice cyA cyn cyc) (.bool czb) (.slice czA czn czc) (scP pZ.1):=by rw [hV48];exact oc.set6 (by omega)
          have od:COwn V48 (V45.heap.size) (V46.heap.size) 3 (.bool db) (.slice dA dn dc) (.bool dyb) (.slice dyA dyn dyc) (.bool dzb) (.slice dzA dzn dzc) (scP pZ.2):=by rw [hV48];exact od.set6 (by omega)
          rw [←hV48]
          refine hK.out _ _ (HKS.out _ HV48.out) (fun hHeld=>?_)
          clear hK K hV48
          obtain ⟨⟨t0,t1,t2,t3,t4,t5⟩,f0,f1,f2,f3,f4,f5⟩:=kB.facts6
          refine wpAnyH_ready (rs:=[9]) (by kernel_rfl) (by simp) ?_
          refine AllReadyH.cons rfl (fun K hK=>?_) AllReadyH.nil
          simp only [List.getElem_toArray,List.getElem_cons_succ,List.getElem_cons_zero]
          go_wp2_with fail
          clear t0 t1 t2 t3 t4 t5 f0 f1 f2 f3 f4 f5
          obtain ⟨V49,hV49⟩:∃ x,x=((((((V48.setCell ⟨W0.heap.size,0,none⟩ (.bool db)).setCell ⟨W0.heap.size,1,none⟩ (.slice dA dn dc)).setCell ⟨W0.heap.size,2,none⟩ (.bool dyb)).setCell ⟨W0.heap.size,3,none⟩ (.slice dyA dyn dyc)).setCell ⟨W0.heap.size,4,none⟩ (.bool dzb)).setCell ⟨W0.heap.size,5,none⟩ (.slice dzA dzn dzc)):=⟨_,rfl⟩
          have zV49:V49.heap.size≤V48.heap.size∧V48.heap.size≤V49.heap.size:=by rw [hV49];simp only [setCell_size];exact ⟨Nat.le_refl _,Nat.le_refl _⟩
          have HV49:Hid (Below W0.heap.size W0 V49):=by rw [hV49];exact below_set6E HV48.out (by omega) _ _ _ _ _ _
          have kB:Box V49 (W0.heap.size) 76 #[.bool db,.slice dA dn dc,.bool dyb,.slice dyA dyn dyc,.bool dzb,.slice dzA dzn dzc]:=by rw [hV49];exact box_new6 kB _ _ _ _ _ _
          have kA:Box V49 (V46.heap.size) 76 #[.bool cb,.slice cA cn cc,.bool cyb,.slice cyA cyn cyc,.bool czb,.slice czA czn czc]:=by rw [hV49];exact box_set6 kA (by omega) _ _ _ _ _ _
          have oc:COwn V49 (V44.heap.size) (V45.heap.size) 3 (.bool cb) (.slice cA cn cc) (.bool cyb) (.slice cyA cyn cyc) (.bool czb) (.slice czA czn czc) (scP pZ.1):=by rw [hV49];exact oc.set6 (by omega)
          have od:COwn V49 (V45.heap.size) (V46.heap.size) 3 (.bool db) (.slice dA dn dc) (.bool dyb) (.slice dyA dyn dyc) (.bool dzb) (.slice dzA dzn dzc) (scP pZ.2):=by rw [hV49];exact od.set6 (by omega)
          rw [←hV49]
          refine hK.out _ _ (HKS.out _ HV49.out) (fun hHeld=>?_)
          clear hK K hV49
          refine wpAnyH_done (by kernel_rfl) ?_ _
          go_wp2_with fail
          go_meet
          case rel=>exact ⟨_,_,_,_,_,_,_,_,_,_,_,_,_,_,rfl,rfl,kA,kB,oc.in_ S1.out (by omega),od.in_ S2.out (by omega),by omega,by omega,HV49.out⟩
      · simp only [List.getElem_toArray,List.getElem_cons_succ,List.getElem_cons_zero]
        go_wp2_with fail
        obtain ⟨V50,hV50⟩:∃ x,x=V45.alloc (.cells #[.bool false,.slice none 0 0,.bool false,.slice none 0 0,.bool false,.slice none 0 0] 76):=⟨_,rfl⟩
        have bV50:Below V45.heap.size V45 V50:=by rw [hV50];exact below_new _ _
        have kV50:Box V50 V45.heap.size 76 #[.bool false,.slice none 0 0,.bool false,.slice none 0 0,.bool false,.slice none 0 0]:=by rw [hV50];exact Box.last _ _ _ rfl
        have zV50:V50.heap.size≤V45.heap.size+1∧V45.heap.size+1≤V50.heap.size:=by rw [hV50,alloc_size];exact ⟨Nat.le_refl _,Nat.le_refl _⟩
        have HV50:=hide (below_then HV45.out bV50)
        have kB:=kB.below bV50 kB.lt
        have kA:=kV50
        have oc:=oc.below bV50 (by omega)
        rw [←hV50]
        refine hK.out _ _ (HKS.out _ HV50.out) (fun hHeld=>?_)
        clear hK K hV50 bV50 kV50
        refine wpAnyH_ready (rs:=[5]) (by kernel_rfl) (by simp) ?_
        refine (AllReadyH.cons rfl (fun K hK=>?_) AllReadyH.nil)
        · simp only [List.getElem_toArray,List.getElem_cons_succ,List.getElem_cons_zero]
          go_simp
          go_at_call 46
          (with_reducible refine Calls.mono (HC2.out _ HV50.out) ?_)
          rintro e V51 ⟨d0,d1',d2',d3,d4,d5,rfl,od,bV51⟩
          obtain ⟨db,dA,dn,dc,dyb,dyA,dyn,dyc,dzb,dzA,dzn,dzc,rfl,rfl,rfl,rfl,rfl,rfl⟩:=od.cut
          have od:COwn V51 V50.heap.size V51.heap.size 3 (.bool db) (.slice dA dn dc) (.bool dyb) (.slice dyA dyn dyc) (.bool dzb) (.slice dzA dzn dzc) (scP pZ.2):=od
          have zV51:V50.heap.size≤V51.heap.size:=bV51.size
          have HV51:=hide (below_then HV50.out bV51)
          have kA:=kA.below bV51 kA.lt
          have kB:=kB.below bV51 kB.lt
          have oc:=oc.below bV51 (by omega)
          go_wp2_with fail
          refine hK.out _ _ (HKS.out _ HV51.out) (fun hHeld=>?_)
          clear hK K bV51
          have lA:=kA.lt
          have lB:=kB.lt
          obtain ⟨⟨t0,t1,t2,t3,t4,t5⟩,f0,f1,f2,f3,f4,f5⟩:=kA.facts6
          refine wpAnyH_ready (rs:=[8]) (by kernel_rfl) (by simp) ?_
          refine AllReadyH.cons rfl (fun K hK=>?_) AllReadyH.nil
          simp only [List.getElem_toArray,List.getElem_cons_succ,List.getElem_cons_zero]
          go_wp2_with fail
          clear t0 t1 t2 t3 t4 t5 f0 f1 f2 f3 f4 f5
          obtain ⟨V52,hV52⟩:∃ x,x=((((((V51.setCell ⟨V45.heap.size,0,none⟩ (.bool cb)).setCell ⟨V45.heap.size,1,none⟩ (.slice cA cn cc)).setCell ⟨V45.heap.size,2,none⟩ (.bool cyb)).setCell ⟨V45.heap.size,3,none⟩ (.slice cyA cyn cyc)).setCell ⟨V45.heap.size,4,none⟩ (.bool czb)).setCell ⟨V45.heap.size,5,none⟩ (.slice czA czn czc)):=⟨_,rfl⟩
          have zV52:V52.heap.size≤V51.heap.size∧V51.heap.size≤V52.heap.size:=by rw [hV52];simp only [setCell_size];exact ⟨Nat.le_refl _,Nat.le_refl _⟩
          have HV52:Hid (Below W0.heap.size W0 V52):=by rw [hV52];exact below_set6E HV51.out (by omega) _ _ _ _ _ _
          have kA:Box V52 (V45.heap.size) 76 #[.bool cb,.slice cA cn cc,.bool cyb,.slice cyA cyn cyc,.bool czb,.slice czA czn czc]:=by rw [hV52];exact box_new6 kA _ _ _ _ _ _
          have kB:Box V52 (W0.heap.size) 76 #[.bool false,.slice none 0 0,.bool false,.slice none 0 0,.bool false,.slice none 0 0]:=by rw [hV52];exact box_set6 kB (by omega) _ _ _ _ _ _
          have oc:COwn V52 (V44.heap.size) (V45.heap.size) 3 (.bool cb) (.slice cA cn cc) (.bool cyb) (.slice cyA cyn cyc) (.bool czb) (.slice czA czn czc) (scP pZ.1):=by rw [hV52];exact oc.set6 (by omega)
          have od:COwn V52 (V50.heap.size) (V51.heap.size) 3 (.bool db) (.slice dA dn dc) (.bool dyb) (.slice dyA dyn dyc) (.bool dzb) (.slice dzA dzn dzc) (scP pZ.2):=by rw [hV52];exact od.set6 (by omega)
          rw [←hV52]
          refine hK.out _ _ (HKS.out _ HV52.out) (fun hHeld=>?_)
          clear hK K hV52
          obtain ⟨⟨t0,t1,t2,t3,t4,t5⟩,f0,f1,f2,f3,f4,f5⟩:=kB.facts6
          refine wpAnyH_ready (rs:=[9]) (by kernel_rfl) (by simp) ?_
          refine AllReadyH.cons rfl (fun K hK=>?_) AllReadyH.nil
          simp only [List.getElem_toArray,List.getElem_cons_succ,List.getElem_cons_zero]
          go_wp2_with fail
          clear t0 t1 t2 t3 t4 t5 f0 f1 f2 f3 f4 f5
          obtain ⟨V53,hV53⟩:∃ x,x=((((((V52.setCell ⟨W0.heap.size,0,none⟩ (.bool db)).setCell ⟨W0.heap.size,1,none⟩ (.slice dA dn dc)).setCell ⟨W0.heap.size,2,none⟩ (.bool dyb)).setCell ⟨W0.heap.size,3,none⟩ (.slice dyA dyn dyc)).setCell ⟨W0.heap.size,4,none⟩ (.bool dzb)).setCell ⟨W0.heap.size,5,none⟩ (.slice dzA dzn dzc)):=⟨_,rfl⟩
          have zV53:V53.heap.size≤V52.heap.size∧V52.heap.size≤V53.heap.size:=by rw [hV53];simp only [setCell_size];exact ⟨Nat.le_refl _,Nat.le_refl _⟩
          have HV53:Hid (Below W0.heap.size W0 V53):=by rw [hV53];exact below_set6E HV52.out (by omega) _ _ _ _ _ _
          have kB:Box V53 (W0.heap.size) 76 #[.bool db,.slice dA dn dc,.bool dyb,.slice dyA dyn dyc,.bool dzb,.slice dzA dzn dzc]:=by rw [hV53];exact box_new6 kB _ _ _ _ _ _
          have kA:Box V53 (V45.heap.size) 76 #[.bool cb,.slice cA cn cc,.bool cyb,.slice cyA cyn cyc,.bool czb,.slice czA czn czc]:=by rw [hV53];exact box_set6 kA (by omega) _ _ _ _ _ _
          have oc:COwn V53 (V44.heap.size) (V45.heap.size) 3 (.bool cb) (.slice cA cn cc) (.bool cyb) (.slice cyA cyn cyc) (.bool czb) (.slice czA czn czc) (scP pZ.1):=by rw [hV53];exact oc.set6 (by omega)
          have od:COwn V53 (V50.heap.size) (V51.heap.size) 3 (.bool db) (.slice dA dn dc) (.bool dyb) (.slice dyA dyn dyc) (.bool dzb) (.slice dzA dzn dzc) (scP pZ.2):=by rw [hV53];exact od.set6 (by omega)
          rw [←hV53]
          refine hK.out _ _ (HKS.out _ HV53.out) (fun hHeld=>?_)
          clear hK K hV53
          refine wpAnyH_done (by kernel_rfl) ?_ _
          go_wp2_with fail
          go_meet
          case rel=>exact ⟨_,_,_,_,_,_,_,_,_,_,_,_,_,_,rfl,rfl,kA,kB,oc.in_ S1.out (by omega),od.in_ S2.out (by omega),by omega,by omega,HV53.out⟩
    · simp only [List.getElem_toArray,List.getElem_cons_succ,List.getElem_cons_zero]
      go_wp2_with fail
      obtain ⟨V54,hV54⟩:∃ x,x=V44.alloc (.cells #[.bool false,.slice none 0 0,.bool false,.slice none 0 0,.bool false,.slice none 0 0] 76):=⟨_,rfl⟩
      have bV54:Below V44.heap.size V44 V54:=by rw [hV54];exact below_new _ _
      have kV54:Box V54 V44.heap.size 76 #[.bool false,.slice none 0 0,.bool false,.slice none 0 0,.bool false,.slice none 0 0]:=by rw [hV54];exact Box.last _ _ _ rfl
      have zV54:V54.heap.size≤V44.heap.size+1∧V44.heap.size+1≤V54.heap.size:=by rw [hV54,alloc_size];exact ⟨Nat.le_refl _,Nat.le_refl _⟩
      have HV54:=hide (below_then HV44.out bV54)
      have kB:=kB.below bV54 kB.lt
      have kA:=kV54
      rw [←hV54]
      refine hK.out _ _ (HKS.out _ HV54.out) (fun hHeld=>?_)
      clear hK K hV54 bV54 kV54
      refine wpAnyH_ready (rs:=[2]) (by kernel_rfl) (by simp) ?_
      refine (AllReadyH.cons rfl (fun K hK=>?_) AllReadyH.nil)
      · simp only [List.getElem_toArray,List.getElem_cons_succ,List.getElem_cons_zero]
        go_simp
        go_at_call 46
        (with_reducible refine Calls.mono (HC1.out _ HV54.out) ?_)
        rintro e V55 ⟨c0,c1',c2',c3,c4,c5,rfl,oc,bV55⟩
        obtain ⟨cb,cA,cn,cc,cyb,cyA,cyn,cyc,czb,czA,czn,czc,rfl,rfl,rfl,rfl,rfl,rfl⟩:=oc.cut
        have oc:COwn V55 V54.heap.size V55.heap.size 3 (.bool cb) (.slice cA cn cc) (.bool cyb) (.slice cyA cyn cyc) (.bool czb) (.slice czA czn czc) (scP pZ.1):=oc
        have zV55:V54.heap.size≤V55.heap.size:=bV55.size
        have HV55:=hide (below_then HV54.out bV55)
        have kA:=kA.below bV55 kA.lt
        have kB:=kB.below bV55 kB.lt
        go_wp2_with fail
        refine hK.out _ _ (HKS.out _ HV55.out) (fun hHeld=>?_)
        clear hK K bV55
        refine wpAnyH_ready (rs:=[5]) (by kernel_rfl) (by simp) ?_
        refine (AllReadyH.cons rfl (fun K hK=>?_) AllReadyH.nil)
        · simp only [List.getElem_toArray,List.getElem_cons_succ,List.getElem_cons_zero]
          go_simp
          go_at_call 46
          (with_reducible refine Calls.mono (HC2.out _ HV55.out) ?_)
          rintro e V56 ⟨d0,d1',d2',d3,d4,d5,rfl,od,bV56⟩
          obtain ⟨db,dA,dn,dc,dyb,dyA,dyn,dyc,dzb,dzA,dzn,dzc,rfl,rfl,rfl,rfl,rfl,rfl⟩:=od.cut
          have od:COwn V56 V55.heap.size V56.heap.size 3 (.bool db) (.slice dA dn dc) (.bool dyb) (.slice dyA dyn dyc) (.bool dzb) (.slice dzA dzn dzc) (scP pZ.2):=od
          have zV56:V55.heap.size≤V56.heap.size:=bV56.size
          have HV56:=hide (below_then HV55.out bV56)
          have kA:=kA.below bV56 kA.lt
          have kB:=kB.below bV56 kB.lt
          have oc:=oc.below bV56 (by omega)
          go_wp2_with fail
          refine hK.out _ _ (HKS.out _ HV56.out) (fun hHeld=>?_)
          clear hK K bV56
          have lA:=kA.lt
          have lB:=kB.lt
          obtain ⟨⟨t0,t1,t2,t3,t4,t5⟩,f0,f1,f2,f3,f4,f5⟩:=kA.facts6
          refine wpAnyH_ready (rs:=[8]) (by kernel_rfl) (by simp) ?_
          refine AllReadyH.cons rfl (fun K hK=>?_) AllReadyH.nil
          simp only [List.getElem_toArray,List.getElem_cons_succ,List.getElem_cons_zero]
          go_wp2_with fail
          clear t0 t1 t2 t3 t4 t5 f0 f1 f2 f3 f4 f5
          obtain ⟨V57,hV57⟩:∃ x,x=((((((V56.setCell ⟨V44.heap.size,0,none⟩ (.bool cb)).setCell ⟨V44.heap.size,1,none⟩ (.slice cA cn cc)).setCell ⟨V44.heap.size,2,none⟩ (.bool cyb)).setCell ⟨V44.heap.size,3,none⟩ (.slice cyA cyn cyc)).setCell ⟨V44.heap.size,4,none⟩ (.bool czb)).setCell ⟨V44.heap.size,5,none⟩ (.slice czA czn czc)):=⟨_,rfl⟩
          have zV57:V57.heap.size≤V56.heap.size∧V56.heap.size≤V57.heap.size:=by rw [hV57];simp only [setCell_size];exact ⟨Nat.le_refl _,Nat.le_refl _⟩
          have HV57:Hid (Below W0.heap.size W0 V57):=by rw [hV57];exact below_set6E HV56.out (by omega) _ _ _ _ _ _
          have kA:Box V57 (V44.heap.size) 76 #[.bool cb,.slice cA cn cc,.bool cyb,.slice cyA cyn cyc,.bool czb,.slice czA czn czc]:=by rw [hV57];exact box_new6 kA _ _ _ _ _ _
          have kB:Box V57 (W0.heap.size) 76 #[.bool false,.slice none 0 0,.bool false,.slice none 0 0,.bool false,.slice none 0 0]:=by rw [hV57];exact box_set6 kB (by omega) _ _ _ _ _ _
          have oc:COwn V57 (V54.heap.size) (V55.heap.size) 3 (.bool cb) (.slice cA cn cc) (.bool cyb) (.slice cyA cyn cyc) (.bool czb) (.slice czA czn czc) (scP pZ.1):=by rw [hV57];exact oc.set6 (by omega)
          have od:COwn V57 (V55.heap.size) (V56.heap.size) 3 (.bool db) (.slice dA dn dc) (.bool dyb) (.slice dyA dyn dyc) (.bool dzb) (.slice dzA dzn dzc) (scP pZ.2):=by rw [hV57];exact od.set6 (by omega)
          rw [←hV57]
          refine hK.out _ _ (HKS.out _ HV57.out) (fun hHeld=>?_)
          clear hK K hV57
          obtain ⟨⟨t0,t1,t2,t3,t4,t5⟩,f0,f1,f2,f3,f4,f5⟩:=kB.facts6
          refine wpAnyH_ready (rs:=[9]) (by kernel_rfl) (by simp) ?_
          refine AllReadyH.cons rfl (fun K hK=>?_) AllReadyH.nil
          simp only [List.getElem_toArray,List.getElem_cons_succ,List.getElem_cons_zero]
          go_wp2_with fail
          clear t0 t1 t2 t3 t4 t5 f0 f1 f2 f3 f4 f5
          obtain ⟨V58,hV58⟩:∃ x,x=((((((V57.setCell ⟨W0.heap.size,0,none⟩ (.bool db)).setCell ⟨W0.heap.size,1,none⟩ (.slice dA dn dc)).setCell ⟨W0.heap.size,2,none⟩ (.bool dyb)).setCell ⟨W0.heap.size,3,none⟩ (.slice dyA dyn dyc)).setCell ⟨W0.heap.size,4,none⟩ (.bool dzb)).setCell ⟨W0.heap.size,5,none⟩ (.slice dzA dzn dzc)):=⟨_,rfl⟩
          have zV58:V58.heap.size≤V57.heap.size∧V57.heap.size≤V58.heap.size:=by rw [hV58];simp only [setCell_size];exact ⟨Nat.le_refl _,Nat.le_refl _⟩
          have HV58:Hid (Below W0.heap.size W0 V58):=by rw [hV58];exact below_set6E HV57.out (by omega) _ _ _ _ _ _
          have kB:Box V58 (W0.heap.size) 76 #[.bool db,.slice dA dn dc,.bool dyb,.slice dyA dyn dyc,.bool dzb,.slice dzA dzn dzc]:=by rw [hV58];exact box_new6 kB _ _ _ _ _ _
          have kA:Box V58 (V44.heap.size) 76 #[.bool cb,.slice cA cn cc,.bool cyb,.slice cyA cyn cyc,.bool czb,.slice czA czn czc]:=by rw [hV58];exact box_set6 kA (by omega) _ _ _ _ _ _
          have oc:COwn V58 (V54.heap.size) (V55.heap.size) 3 (.bool cb) (.slice cA cn cc) (.bool cyb) (.slice cyA cyn cyc) (.bool czb) (.slice czA czn czc) (scP pZ.1):=by rw [hV58];exact oc.set6 (by omega)
          have od:COwn V58 (V55.heap.size) (V56.heap.size) 3 (.bool db) (.slice dA dn dc) (.bool dyb) (.slice dyA dyn dyc) (.bool dzb) (.slice dzA dzn dzc) (scP pZ.2):=by rw [hV58];exact od.set6 (by omega)
          rw [←hV58]
          refine hK.out _ _ (HKS.out _ HV58.out) (fun hHeld=>?_)
          clear hK K hV58
          refine wpAnyH_done (by kernel_rfl) ?_ _
          go_wp2_with fail
          go_meet
          case rel=>exact ⟨_,_,_,_,_,_,_,_,_,_,_,_,_,_,rfl,rfl,kA,kB,oc.in_ S1.out (by omega),od.in_ S2.out (by omega),by omega,by omega,HV58.out⟩
 case rest =>
  have hs0:=Ehs0.out
  clear Ehs0
  obtain ⟨gf,gt,f0,f1,f2,f3,f4,f5,t0,t1,t2,t3,t4,t5,rfl,rfl,kf,kt,hf,ht,hgf,hgt,hb1⟩:=hcut
  obtain ⟨fb,fA,fn,fc,fyb,fyA,fyn,fyc,fzb,fzA,fzn,fzc,rfl,rfl,rfl,rfl,rfl,rfl⟩:=hf.cut
  obtain ⟨tb,tA,tn,tc,tyb,tyA,tyn,tyc,tzb,tzA,tzn,tzc,rfl,rfl,rfl,rfl,rfl,rfl⟩:=ht.cut
  obtain ⟨w1,hw1⟩:∃ xw,xw=wc:=⟨_,rfl⟩
  subst hw1
  clear HKS HS0 HS0a HS0b HBp HC1 HC2
  clear yp0 yp1 yp2 yp3 yp4 yp5 yp6 yp7 yp8 yp9 yp10 yp11
  have hs1:=hb1.size
  have hT1:=below_then hT0 hb1
  have kp:=kp.below hb1 kp.lt
  have kq:=kq.below hb1 kq.lt
  have hp:=hp.below (hb1.mono (by omega))
  have hq:=hq.below (hb1.mono (by omega))
  clear hT0
  clear hb1
  have lkf:=kf.lt
  have lkt:=kt.lt
  clear hp kp
  go_upto_region 2 with fail
  have HC1:=hide (fun (W:World) (h:Below w1.heap.size w1 W)=>scaledC W B (by have:=h.size;omega) (hq.fst.below (h.mono (by omega))) zq.1.1 zq.1.2)
  have HC2:=hide (fun (W:World) (h:Below w1.heap.size w1 W)=>scaledC W B (by have:=h.size;omega) (hq.snd.below (h.mono (by omega))) zq.2.1 zq.2.2)
  have HF:=hide (fun (W:World) (h:Below w1.heap.size w1 W)=>((hf.below h).wider h.size))
  have HT:=hide (fun (W:World) (h:Below w1.heap.size w1 W)=>((ht.below h).wider h.size))
  clear hf ht hq
  have D1:=hide (show sgC (scP pZ.1) (scP pZ.2) (scP qZ.1)=cmpV (crossS (scP pZ.1) (scP pZ.2) (scP qZ.1)) 0 from rfl)
  have D2:=hide (show sgC (scP pZ.1) (scP pZ.2) (scP qZ.2)=cmpV (crossS (scP pZ.1) (scP pZ.2) (scP qZ.2)) 0 from rfl)
  have HW:=hide (show IntKind.i64.wrap (sgC (scP pZ.1) (scP pZ.2) (scP qZ.1) * sgC (scP pZ.1) (scP pZ.2) (scP qZ.2))=sgC (scP pZ.1) (scP pZ.2) (scP qZ.1) * sgC (scP pZ.1) (scP pZ.2) (scP qZ.2) from sg_wrap _ _ _ _)
  have HBf:=hide kf
  have HBt:=hide kt
  have HBq:=hide kq
  have HS0:Hid (Below w1.heap.size w1 w1.drew):=(Below.refl _ _).drew
  have HKS:=hide (fun (W:World) (hq:Below w1.heap.size w1 W)=>(⟨(HBf.out.below hq HBf.out.lt).cell 0,(HBf.out.below hq HBf.out.lt).cell 1,(HBf.out.below hq HBf.out.lt).cell 2,(HBf.out.below hq HBf.out.lt).cell 3,(HBf.out.below hq HBf.out.lt).cell 4,(HBf.out.below hq HBf.out.lt).cell 5,(HBt.out.below hq HBt.out.lt).cell 0,(HBt.out.below hq HBt.out.lt).cell 1,(HBt.out.below hq HBt.out.lt).cell 2,(HBt.out.below hq HBt.out.lt).cell 3,(HBt.out.below hq HBt.out.lt).cell 4,(HBt.out.below hq HBt.out.lt).cell 5,(HBq.out.below hq HBq.out.lt).cell 0,(HBq.out.below hq HBq.out.lt).cell 1,(HBq.out.below hq HBq.out.lt).cell 2,(HBq.out.below hq HBq.out.lt).cell 3,(HBq.out.below hq HBq.out.lt).cell 4,(HBq.out.below hq HBq.out.lt).cell 5,(HBq.out.below hq HBq.out.lt).cell 6,(HBq.out.below hq HBq.out.lt).cell 7,(HBq.out.below hq HBq.out.lt).cell 8,(HBq.out.below hq HBq.out.lt).cell 9,(HBq.out.below hq HBq.out.lt).cell 10,(HBq.out.below hq HBq.out.lt).cell 11⟩:W.cell? ⟨gf,0,none⟩=some (.bool fb)∧W.cell? ⟨gf,1,none⟩=some (.slice fA fn fc)∧W.cell? ⟨gf,2,none⟩=some (.bool fyb)∧W.cell? ⟨gf,3,none⟩=some (.slice fyA fyn fyc)∧W.cell? ⟨gf,4,none⟩=some (.bool fzb)∧W.cell? ⟨gf,5,none⟩=some (.slice fzA fzn fzc)∧W.cell? ⟨gt,0,none⟩=some (.bool tb)∧W.cell? ⟨gt,1,none⟩=some (.slice tA tn tc)∧W.cell? ⟨gt,2,none⟩=some (.bool tyb)∧W.cell? ⟨gt,3,none⟩=some (.slice tyA tyn tyc)∧W.cell? ⟨gt,4,none⟩=some (.bool tzb)∧W.cell? ⟨gt,5,none⟩=some (.slice tzA tzn tzc)∧W.cell? ⟨w.heap.size+1,0,none⟩=some (.bool qb)∧W.cell? ⟨w.heap.size+1,1,none⟩=some (.slice qA qn qc)∧W.cell? ⟨w.heap.size+1,2,none⟩=some (.slice qD qm qk)∧W.cell? ⟨w.heap.size+1,3,none⟩=some (.bool qyb)∧W.cell? ⟨w.heap.size+1,4,none⟩=some (.slice qyA qyn qyc)∧W.cell? ⟨w.heap.size+1,5,none⟩=some (.slice qyD qym qyk)∧W.cell? ⟨w.heap.size+1,6,none⟩=some (.bool qzb)∧W.cell? ⟨w.heap.size+1,7,none⟩=some (.slice qzA qzn qzc)∧W.cell? ⟨w.heap.size+1,8,none⟩=some (.slice qzD qzm qzk)∧W.cell? ⟨w.heap.size+1,9,none⟩=some (.bool qzyb)∧W.cell? ⟨w.heap.size+1,10,none⟩=some (.slice qzyA qzyn qzyc)∧W.cell? ⟨w.heap.size+1,11,none⟩=some (.slice qzyD qzym qzyk)))
  obtain ⟨yf0,yf1,yf2,yf3,yf4,yf5⟩:=kf.cells6
  obtain ⟨yt0,yt1,yt2,yt3,yt4,yt5⟩:=kt.cells6
  obtain ⟨yq0,yq1,yq2,yq3,yq4,yq5,yq6,yq7,yq8,yq9,yq10,yq11⟩:=kq.cells12
  go_region_held3 (fun w'=>w'.cell? ⟨gf,0,none⟩=some (.bool fb)∧w'.cell? ⟨gf,1,none⟩=some (.slice fA fn fc)∧w'.cell? ⟨gf,2,none⟩=some (.bool fyb)∧w'.cell? ⟨gf,3,none⟩=some (.slice fyA fyn fyc)∧w'.cell? ⟨gf,4,none⟩=some (.bool fzb)∧w'.cell? ⟨gf,5,none⟩=some (.slice fzA fzn fzc)∧w'.cell? ⟨gt,0,none⟩=some (.bool tb)∧w'.cell? ⟨gt,1,none⟩=some (.slice tA tn tc)∧w'.cell? ⟨gt,2,none⟩=some (.bool tyb)∧w'.cell? ⟨gt,3,none⟩=some (.slice tyA tyn tyc)∧w'.cell? ⟨gt,4,none⟩=some (.bool tzb)∧w'.cell? ⟨gt,5,none⟩=some (.slice tzA tzn tzc)∧w'.cell? ⟨w.heap.size+1,0,none⟩=some (.bool qb)∧w'.cell? ⟨w.heap.size+1,1,none⟩=some (.slice qA qn qc)∧w'.cell? ⟨w.heap.size+1,2,none⟩=some (.slice qD qm qk)∧w'.cell? ⟨w.heap.size+1,3,none⟩=some (.bool qyb)∧w'.cell? ⟨w.heap.size+1,4,none⟩=some (.slice qyA qyn qyc)∧w'.cell? ⟨w.heap.size+1,5,none⟩=some (.slice qyD qym qyk)∧w'.cell? ⟨w.heap.size+1,6,none⟩=some (.bool qzb)∧w'.cell? ⟨w.heap.size+1,7,none⟩=some (.slice qzA qzn qzc)∧w'.cell? ⟨w.heap.size+1,8,none⟩=some (.slice qzD qzm qzk)∧w'.cell? ⟨w.heap.size+1,9,none⟩=some (.bool qzyb)∧w'.cell? ⟨w.heap.size+1,10,none⟩=some (.slice qzyA qzyn qzyc)∧w'.cell? ⟨w.heap.size+1,11,none⟩=some (.slice qzyD qzym qzyk))
   (first | (with_reducible exact HKS.out _ HS4.out) | (with_reducible exact HKS.out _ HS3.out) | (with_reducible exact HKS.out _ HS2.out) | (with_reducible exact HKS.out _ HS1.out) | (with_reducible exact HKS.out _ HS0.out))
   (first
     | (go_at_call 115;have HX:=HS3.out;(with_reducible refine Calls.mono (impl_sideOfLine u3 u3.heap.size (Nat.le_refl _) (HF.out _ HS3.out) (HT.out _ HS3.out) ql S1.out S2.out S4.out) ?_);rintro e u4 ⟨rfl,hb4⟩;have qj:=qj.up hb4;have ql:=ql.up hb4;have hz4:u3.heap.size≤u4.heap.size:=hb4.size;have HS4:=hide (below_then HX hb4);clear HX;have hTT:=below_then hT1 HS4.out)
     | (go_at_call 46;have HX:=HS2.out;(with_reducible refine Calls.mono (HC2.out _ HS2.out) ?_);rintro e u3 ⟨l0,l1,l2,l3,l4,l5,rfl,ol,hb3⟩;obtain ⟨lb,lA,ln,lc,lyb,lyA,lyn,lyc,lzb,lzA,lzn,lzc,rfl,rfl,rfl,rfl,rfl,rfl⟩:=ol.cut;have ql:=ol.in_ (S4.out) (Nat.le_refl _);have qj:=qj.up hb3;have hz3:u2.heap.size≤u3.heap.size:=hb3.size;have HS3:=hide (below_then HX hb3);clear HX)
     | (go_at_call 115;have HX:=HS1.out;(with_reducible refine Calls.mono (impl_sideOfLine u1 u1.heap.size (Nat.le_refl _) (HF.out _ HS1.out) (HT.out _ HS1.out) qj S1.out S2.out S3.out) ?_);rintro e u2 ⟨rfl,hb2⟩;have qj:=qj.up hb2;have hz2:u1.heap.size≤u2.heap.size:=hb2.size;have HS2:=hide (below_then HX hb2);clear HX)
     | (go_at_call 46;have HX:=HS0.out;(with_reducible refine Calls.mono (HC1.out _ HS0.out) ?_);rintro e u1 ⟨j0,j1,j2,j3,j4,j5,rfl,oj,hb1⟩;obtain ⟨jb,jA,jn,jc,jyb,jyA,jyn,jyc,jzb,jzA,jzn,jzc,rfl,rfl,rfl,rfl,rfl,rfl⟩:=oj.cut;have qj:=oj.in_ (S3.out) (Nat.le_refl _);have hz1:w1.heap.size≤u1.heap.size:=hb1.size;have HS1:=hide (below_then HX hb1);clear HX))
  go_wp2_with fail
  go_ret
  refine ⟨?_,hTT⟩
  rw [E1.out,C1.out,C2.out]
  show Ending.returned (Value.bool (decide (IntKind.i64.wrap (sgC (scP pZ.1) (scP pZ.2) (scP qZ.1) * sgC (scP pZ.1) (scP pZ.2) (scP qZ.2))≤0)))=_
  rw [HW.out]
end Go.Proofs.YtafhhemojdblpaaGreat
