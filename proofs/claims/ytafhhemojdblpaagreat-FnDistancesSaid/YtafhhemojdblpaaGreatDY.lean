/-
  The texts SegX4, SegX5, put together; each has its own heading below. No condition of ours.
-/
import Derived.Test.YtafhhemojdblpaaGreatDX
import Derived.Deep.RegionWith
import Derived.Deep.RegionHeld3
import Derived.Deep.CutRange
import Derived.Sort.AtCall
/-
  The program's distances: SquareBetween and its closures.
-/
namespace Go.Proofs.YtafhhemojdblpaaGreat
open Go.RowKit
set_option linter.unusedVariables false
set_option maxRecDepth 100000 in
set_option maxHeartbeats 3200000 in
theorem clos_end (w:World) (gl:Nat) (A:Option Addr) (n c:Nat) (l:List V2) (R:RdV w w.heap.size A n l) (hpl:polyP l) (kl:Box w gl 31 #[.slice A n c]) {p0 p1 p2 p3 p4 p5:Value} {P:PQ} (hp:PIn w w.heap.size p0 p1 p2 p3 p4 p5 P) {T:Int × Int × Int} (sp:SmallP P T) :
 Calls Tryz.prog 28 #[.agg #[p0,p1,p2,p3,p4,p5],.pointer (some ⟨gl,0,none⟩)] w fun e w'=>RRes 3 w w' e (toP l P T):=by
 obtain ⟨pb,pA,pn,pc,pD,pm,pk,pyb,pyA,pyn,pyc,pyD,pym,pyk,rfl,rfl,rfl,rfl,rfl,rfl⟩:=hp.cut
 have hgl:=kl.lt
 obtain ⟨W0,hW0⟩:∃ W0,W0=((w.alloc (.cells #[.bool pb,.slice pA pn pc,.slice pD pm pk,.bool pyb,.slice pyA pyn pyc,.slice pyD pym pyk] 29)).alloc (.cells #[.bool false,.slice none 0 0,.slice none 0 0] 27)):=⟨_,rfl⟩
 have hT0:Below w.heap.size w W0:=by rw [hW0];exact below_alloc (below_new _ _) _
 have kp:Box W0 (w.heap.size) 29 #[.bool pb,.slice pA pn pc,.slice pD pm pk,.bool pyb,.slice pyA pyn pyc,.slice pyD pym pyk]:=by rw [hW0];exact (Box.last _ _ _ rfl).alloc _
 have kr:Box W0 (w.heap.size+1) 27 #[.bool false,.slice none 0 0,.slice none 0 0]:=by rw [hW0];exact Box.last _ _ _ (alloc_size _ _).symm
 have hs0:W0.heap.size=w.heap.size+2:=by rw [hW0,alloc_size,alloc_size]
 go_enter Tryz.func28,Tryz.ntmps28
 go_upto_region 1 with fail
 rw [←hW0]
 clear hW0
 have kl:=kl.below hT0 hgl
 have hp:=hp.below hT0
 have R:=R.below hT0
 have HC:=hide (impl_SquareToPolygon W0 w.heap.size (by omega) A n c l R hpl hp sp)
 clear hp R sp hpl
 have yl0:W0.cell? ⟨gl,0,none⟩=some (.slice A n c):=kl.cell 0
 obtain ⟨yp0,yp1,yp2,yp3,yp4,yp5⟩:=kp.cells6
 go_wp2_with fail
 refine HC.out.mono ?_
 rintro e w1 ⟨z0,z1,z2,rfl,oz,hb1⟩
 obtain ⟨zb,zA,zn,zc,zD,zm,zk,rfl,rfl,rfl⟩:=oz.cut
 clear HC yl0 kl yp0 yp1 yp2 yp3 yp4 yp5
 clear kp
 have hs1:=hb1.size
 have hT1:=below_then hT0 hb1
 have kr:=kr.below hb1 kr.lt
 clear hT0
 clear hb1
 have HO:=hide (ret_r kr oz hT1 (by omega) (by omega) (by omega) (.inl (by omega)))
 obtain ⟨s0,s1,s2,z0,z1,z2⟩:=kr.facts3
 clear kr oz
 go_wp2_with fail
 refine bodyPost_ret (results_cell_row rfl _ _ (w.heap.size+1) _ #[.bool zb,.slice zA zn zc,.slice zD zm zk] (0,0) _ rfl HO.out.1 Tryz.underlying27 rfl Tryz.sizeRat) rfl ?_
 exact HO.out.2
set_option maxRecDepth 100000 in
set_option maxHeartbeats 6400000 in
theorem clos_corner (w:World) (x y:Int) (hx:(Lit.int .i64 x).wf=true) (hy:(Lit.int .i64 y).wf=true) (gp gq:Nat) {p0 p1 p2 p3 p4 p5 q0 q1 q2 q3 q4 q5:Value} {P Q:PQ} (kp:Box w gp 29 #[p0,p1,p2,p3,p4,p5]) (hp:PIn w w.heap.size p0 p1 p2 p3 p4 p5 P) (kq:Box w gq 29 #[q0,q1,q2,q3,q4,q5]) (hq:PIn w w.heap.size q0 q1 q2 q3 q4 q5 Q) :
 Calls Tryz.prog 30 #[.agg #[.int .i64 x,.int .i64 y],.pointer (some ⟨gp,0,none⟩),.pointer (some ⟨gq,0,none⟩)] w fun e w'=>RRes 3 w w' e (sqP (vecP x y) P Q):=by
 obtain ⟨pb,pA,pn,pc,pD,pm,pk,pyb,pyA,pyn,pyc,pyD,pym,pyk,rfl,rfl,rfl,rfl,rfl,rfl⟩:=hp.cut
 obtain ⟨qb,qA,qn,qc,qD,qm,qk,qyb,qyA,qyn,qyc,qyD,qym,qyk,rfl,rfl,rfl,rfl,rfl,rfl⟩:=hq.cut
 have hgp:=kp.lt
 have hgq:=kq.lt
 obtain ⟨W0,hW0⟩:∃ W0,W0=((w.alloc (.cells #[.int .i64 x,.int .i64 y] 44)).alloc (.cells #[.bool false,.slice none 0 0,.slice none 0 0] 27)):=⟨_,rfl⟩
 have hT0:Below w.heap.size w W0:=by rw [hW0];exact below_alloc (below_new _ _) _
 have kv:Box W0 (w.heap.size) 44 #[.int .i64 x,.int .i64 y]:=by rw [hW0];exact (Box.last _ _ _ rfl).alloc _
 have kr:Box W0 (w.heap.size+1) 27 #[.bool false,.slice none 0 0,.slice none 0 0]:=by rw [hW0];exact Box.last _ _ _ (alloc_size _ _).symm
 have hs0:W0.heap.size=w.heap.size+2:=by rw [hW0,alloc_size,alloc_size]
 go_enter Tryz.func30,Tryz.ntmps30
 go_upto_region 1 with fail
 rw [←hW0]
 clear hW0
 have kp:=kp.below hT0 hgp
 have kq:=kq.below hT0 hgq
 have hp:=hp.below hT0
 have hq:=hq.below hT0
 have HC1:=hide (fun (W:World)=>impl_PointOf W x y hx hy)
 have HCP:=hide (fun (W:World) (h:Below W0.heap.size W0 W)=>(hp.below (h.mono (by omega))).wider (show w.heap.size≤W.heap.size by have:=h.size;omega))
 have HCQ:=hide (fun (W:World) (h:Below W0.heap.size W0 W)=>(hq.below (h.mono (by omega))).wider (show w.heap.size≤W.heap.size by have:=h.size;omega))
 clear hp hq
 have HBv:=hide kv
 have HBp:=hide kp
 have HBq:=hide kq
 have HBr:=hide kr
 have HS0:Hid (Below W0.heap.size W0 W0.drew):=(Below.refl _ _).drew
 have HKS:=hide (fun (W:World) (hq:Below W0.heap.size W0 W)=>(⟨(HBv.out.below hq HBv.out.lt).cell 0,(HBv.out.below hq HBv.out.lt).cell 1,(HBp.out.below hq HBp.out.lt).cell 0,(HBp.out.below hq HBp.out.lt).cell 1,(HBp.out.below hq HBp.out.lt).cell 2,(HBp.out.below hq HBp.out.lt).cell 3,(HBp.out.below hq HBp.out.lt).cell 4,(HBp.out.below hq HBp.out.lt).cell 5,(HBq.out.below hq HBq.out.lt).cell 0,(HBq.out.below hq HBq.out.lt).cell 1,(HBq.out.below hq HBq.out.lt).cell 2,(HBq.out.below hq HBq.out.lt).cell 3,(HBq.out.below hq HBq.out.lt).cell 4,(HBq.out.below hq HBq.out.lt).cell 5⟩:W.cell? ⟨w.heap.size,0,none⟩=some (.int .i64 x)∧W.cell? ⟨w.heap.size,1,none⟩=some (.int .i64 y)∧W.cell? ⟨gp,0,none⟩=some (.bool pb)∧W.cell? ⟨gp,1,none⟩=some (.slice pA pn pc)∧W.cell? ⟨gp,2,none⟩=some (.slice pD pm pk)∧W.cell? ⟨gp,3,none⟩=some (.bool pyb)∧W.cell? ⟨gp,4,none⟩=some (.slice pyA pyn pyc)∧W.cell? ⟨gp,5,none⟩=some (.slice pyD pym pyk)∧W.cell? ⟨gq,0,none⟩=some (.bool qb)∧W.cell? ⟨gq,1,none⟩=some (.slice qA qn qc)∧W.cell? ⟨gq,2,none⟩=some (.slice qD qm qk)∧W.cell? ⟨gq,3,none⟩=some (.bool qyb)∧W.cell? ⟨gq,4,none⟩=some (.slice qyA qyn qyc)∧W.cell? ⟨gq,5,none⟩=some (.slice qyD qym qyk)))
 have HKT:=hide (fun (W:World) (hq:Below W0.heap.size W0 W) (x0 x1 x2:Value)=>(⟨((((HBv.out.below hq HBv.out.lt).setv (show w.heap.size ≠ w.heap.size+1 by omega) 0 x0).setv (show w.heap.size ≠ w.heap.size+1 by omega) 1 x1).setv (show w.heap.size ≠ w.heap.size+1 by omega) 2 x2).cell 0,((((HBv.out.below hq HBv.out.lt).setv (show w.heap.size ≠ w.heap.size+1 by omega) 0 x0).setv (show w.heap.size ≠ w.heap.size+1 by omega) 1 x1).setv (show w.heap.size ≠ w.heap.size+1 by omega) 2 x2).cell 1,((((HBp.out.below hq HBp.out.lt).setv (show gp ≠ w.heap.size+1 by omega) 0 x0).setv (show gp ≠ w.heap.size+1 by omega) 1 x1).setv (show gp ≠ w.heap.size+1 by omega) 2 x2).cell 0,((((HBp.out.below hq HBp.out.lt).setv (show gp ≠ w.heap.size+1 by omega) 0 x0).setv (show gp ≠ w.heap.size+1 by omega) 1 x1).setv (show gp ≠ w.heap.size+1 by omega) 2 x2).cell 1,((((HBp.out.below hq HBp.out.lt).setv (show gp ≠ w.heap.size+1 by omega) 0 x0).setv (show gp ≠ w.heap.size+1 by omega) 1 x1).setv (show gp ≠ w.heap.size+1 by omega) 2 x2).cell 2,((((HBp.out.below hq HBp.out.lt).setv (show gp ≠ w.heap.size+1 by omega) 0 x0).setv (show gp ≠ w.heap.size+1 by omega) 1 x1).setv (show gp ≠ w.heap.size+1 by omega) 2 x2).cell 3,((((HBp.out.below hq HBp.out.lt).setv (show gp ≠ w.heap.size+1 by omega) 0 x0).setv (show gp ≠ w.heap.size+1 by omega) 1 x1).setv (show gp ≠ w.heap.size+1 by omega) 2 x2).cell 4,((((HBp.out.below hq HBp.out.lt).setv (show gp ≠ w.heap.size+1 by omega) 0 x0).setv (show gp ≠ w.heap.size+1 by omega) 1 x1).setv (show gp ≠ w.heap.size+1 by omega) 2 x2).cell 5,((((HBq.out.below hq HBq.out.lt).setv (show gq ≠ w.heap.size+1 by omega) 0 x0).setv (show gq ≠ w.heap.size+1 by omega) 1 x1).setv (show gq ≠ w.heap.size+1 by omega) 2 x2).cell 0,((((HBq.out.below hq HBq.out.lt).setv (show gq ≠ w.heap.size+1 by omega) 0 x0).setv (show gq ≠ w.heap.size+1 by omega) 1 x1).setv (show gq ≠ w.heap.size+1 by omega) 2 x2).cell 1,((((HBq.out.below hq HBq.out.lt).setv (show gq ≠ w.heap.size+1 by omega) 0 x0).setv (show gq ≠ w.heap.size+1 by omega) 1 x1).setv (show gq ≠ w.heap.size+1 by omega) 2 x2).cell 2,((((HBq.out.below hq HBq.out.lt).setv (show gq ≠ w.heap.size+1 by omega) 0 x0).setv (show gq ≠ w.heap.size+1 by omega) 1 x1).setv (show gq ≠ w.heap.size+1 by omega) 2 x2).cell 3,((((HBq.out.below hq HBq.out.lt).setv (show gq ≠ w.heap.size+1 by omega) 0 x0).setv (show gq ≠ w.heap.size+1 by omega) 1 x1).setv (show gq ≠ w.heap.size+1 by omega) 2 x2).cell 4,((((HBq.out.below hq HBq.out.lt).setv (show gq ≠ w.heap.size+1 by omega) 0 x0).setv (show gq ≠ w.heap.size+1 by omega) 1 x1).setv (show gq ≠ w.heap.size+1 by omega) 2 x2).cell 5⟩:(((W.setCell ⟨w.heap.size+1,0,none⟩ x0).setCell ⟨w.heap.size+1,1,none⟩ x1).setCell ⟨w.heap.size+1,2,none⟩ x2).cell? ⟨w.heap.size,0,none⟩=some (.int .i64 x)∧(((W.setCell ⟨w.heap.size+1,0,none⟩ x0).setCell ⟨w.heap.size+1,1,none⟩ x1).setCell ⟨w.heap.size+1,2,none⟩ x2).cell? ⟨w.heap.size,1,none⟩=some (.int .i64 y)∧(((W.setCell ⟨w.heap.size+1,0,none⟩ x0).setCell ⟨w.heap.size+1,1,none⟩ x1).setCell ⟨w.heap.size+1,2,none⟩ x2).cell? ⟨gp,0,none⟩=some (.bool pb)∧(((W.setCell ⟨w.heap.size+1,0,none⟩ x0).setCell ⟨w.heap.size+1,1,none⟩ x1).setCell ⟨w.heap.size+1,2,none⟩ x2).cell? ⟨gp,1,none⟩=some (.slice pA pn pc)∧(((W.setCell ⟨w.heap.size+1,0,none⟩ x0).setCell ⟨w.heap.size+1,1,none⟩ x1).setCell ⟨w.heap.size+1,2,none⟩ x2).cell? ⟨gp,2,none⟩=some (.slice pD pm pk)∧(((W.setCell ⟨w.heap.size+1,0,none⟩ x0).setCell ⟨w.heap.size+1,1,none⟩ x1).setCell ⟨w.heap.size+1,2,none⟩ x2).cell? ⟨gp,3,none⟩=some (.bool pyb)∧(((W.setCell ⟨w.heap.size+1,0,none⟩ x0).setCell ⟨w.heap.size+1,1,none⟩ x1).setCell ⟨w.heap.size+1,2,none⟩ x2).cell? ⟨gp,4,none⟩=some (.slice pyA pyn pyc)∧(((W.setCell ⟨w.heap.size+1,0,none⟩ x0).setCell ⟨w.heap.size+1,1,none⟩ x1).setCell ⟨w.heap.size+1,2,none⟩ x2).cell? ⟨gp,5,none⟩=some (.slice pyD pym pyk)∧(((W.setCell ⟨w.heap.size+1,0,none⟩ x0).setCell ⟨w.heap.size+1,1,none⟩ x1).setCell ⟨w.heap.size+1,2,none⟩ x2).cell? ⟨gq,0,none⟩=some (.bool qb)∧(((W.setCell ⟨w.heap.size+1,0,none⟩ x0).setCell ⟨w.heap.size+1,1,none⟩ x1).setCell ⟨w.heap.size+1,2,none⟩ x2).cell? ⟨gq,1,none⟩=some (.slice qA qn qc)∧(((W.setCell ⟨w.heap.size+1,0,none⟩ x0).setCell ⟨w.heap.size+1,1,none⟩ x1).setCell ⟨w.heap.size+1,2,none⟩ x2).cell? ⟨gq,2,none⟩=some (.slice qD qm qk)∧(((W.setCell ⟨w.heap.size+1,0,none⟩ x0).setCell ⟨w.heap.size+1,1,none⟩ x1).setCell ⟨w.heap.size+1,2,none⟩ x2).cell? ⟨gq,3,none⟩=some (.bool qyb)∧(((W.setCell ⟨w.heap.size+1,0,none⟩ x0).setCell ⟨w.heap.size+1,1,none⟩ x1).setCell ⟨w.heap.size+1,2,none⟩ x2).cell? ⟨gq,4,none⟩=some (.slice qyA qyn qyc)∧(((W.setCell ⟨w.heap.size+1,0,none⟩ x0).setCell ⟨w.heap.size+1,1,none⟩ x1).setCell ⟨w.heap.size+1,2,none⟩ x2).cell? ⟨gq,5,none⟩=some (.slice qyD qym qyk)))
 obtain ⟨yv0,yv1⟩:=kv.cells2
 obtain ⟨yp0,yp1,yp2,yp3,yp4,yp5⟩:=kp.cells6
 obtain ⟨yq0,yq1,yq2,yq3,yq4,yq5⟩:=kq.cells6
 go_region_held3 (fun w'=>w'.cell? ⟨w.heap.size,0,none⟩=some (.int .i64 x)∧w'.cell? ⟨w.heap.size,1,none⟩=some (.int .i64 y)∧w'.cell? ⟨gp,0,none⟩=some (.bool pb)∧w'.cell? ⟨gp,1,none⟩=some (.slice pA pn pc)∧w'.cell? ⟨gp,2,none⟩=some (.slice pD pm pk)∧w'.cell? ⟨gp,3,none⟩=some (.bool pyb)∧w'.cell? ⟨gp,4,none⟩=some (.slice pyA pyn pyc)∧w'.cell? ⟨gp,5,none⟩=some (.slice pyD pym pyk)∧w'.cell? ⟨gq,0,none⟩=some (.bool qb)∧w'.cell? ⟨gq,1,none⟩=some (.slice qA qn qc)∧w'.cell? ⟨gq,2,none⟩=some (.slice qD qm qk)∧w'.cell? ⟨gq,3,none⟩=some (.bool qyb)∧w'.cell? ⟨gq,4,none⟩=some (.slice qyA qyn qyc)∧w'.cell? ⟨gq,5,none⟩=some (.slice qyD qym qyk))
  (first | (with_reducible exact HKT.out _ HS2.out _ _ _) | (with_reducible exact HKS.out _ HS2.out) | (with_reducible exact HKS.out _ HS1.out) | (with_reducible exact HKS.out _ HS0.out))
  (first
    | (go_at_call 15;have HX:=HS1.out;(with_reducible refine Calls.mono (impl_SquareToSegment u1 u1.heap.size (Nat.le_refl _) qc (HCP.out _ HS1.out) (HCQ.out _ HS1.out)) ?_);rintro e u2 ⟨z0,z1,z2,rfl,oz,hb2⟩;obtain ⟨zb,zA,zn,zc,zD,zm,zk,rfl,rfl,rfl⟩:=oz.cut;have qz:=oz.in_ (sqP_fit _ _ _) (Nat.le_refl _);have qc:=qc.up hb2;have hz2:u1.heap.size≤u2.heap.size:=hb2.size;have HS2:=hide (below_then HX hb2);clear HX;have hTT:=below_then hT0 HS2.out;have kRr2:=HBr.out.below HS2.out HBr.out.lt;obtain ⟨tr0_2,tr1_2,tr2_2,fr0_2,fr1_2,fr2_2⟩:=kRr2.facts3;have kR:=kRr2)
    | (go_at_call 16;have HX:=HS0.out;(with_reducible refine Calls.mono (HC1.out _) ?_);rintro e u1 ⟨c0,c1,c2,c3,c4,c5,rfl,oc,hb1⟩;obtain ⟨cb,cA,cn,cc,cD,cm,ck,cyb,cyA,cyn,cyc,cyD,cym,cyk,rfl,rfl,rfl,rfl,rfl,rfl⟩:=oc.cut;have qc:=oc.in_ (vecP_fit x y) (Nat.le_refl _);have hz1:W0.heap.size≤u1.heap.size:=hb1.size;have HS1:=hide (below_then HX hb1);clear HX))
 all_goals
  have HO:=hide (ret_r kR oz.r hTT (by omega) (by omega) (Nat.le_refl _) (.inl (by omega)))
  clear kR oz
  go_wp2_with fail
  refine bodyPost_ret (results_cell_row rfl _ _ (w.heap.size+1) _ #[.bool zb,.slice zA zn zc,.slice zD zm zk] (0,0) _ rfl HO.out.1 Tryz.underlying27 rfl Tryz.sizeRat) rfl ?_
  exact HO.out.2
end Go.Proofs.YtafhhemojdblpaaGreat
/-
  The program's distances: SquareBetween.
-/
namespace Go.Proofs.YtafhhemojdblpaaGreat
open Go.RowKit
set_option linter.unusedVariables false
def twoD (X Y:RQ):Nat → RQ
 | 0=>X
 | _+1=>Y
theorem twoD_fit {X Y:RQ} (h:QFit X) (k:QFit Y):∀ i,QFit (twoD X Y i)
 | 0=>h
 | _+1=>k
/-- the square of the distance between a polygon and a segment -/
noncomputable def sqB (l:List V2) (P Q:PQ) (T T':Int × Int × Int):RQ :=
 if segM l P Q T then intQ 0 else minQ (leastV (twoD (toP l P T) (toP l Q T')) 1) (leastV (fun i=>sqP (vecP (atV l i).1 (atV l i).2) P Q) (l.length - 1))
theorem rd_cells {w:World} {B ga n:Nat} {l:List V2} (R:RdV w B (some ⟨ga,0,none⟩) n l) (i:Nat) (hi:i < n):w.cell? ⟨ga,i * 2,none⟩=some (.int .i64 (atV l i).1)∧w.cell? ⟨ga,i * 2+1,none⟩=some (.int .i64 (atV l i).2):=by
 have hl:i < l.length:=by rw [R.1];exact hi
 obtain ⟨ad,hA,hb,h1,h2⟩:=R.2.1.vec (k:=i) hl
 obtain rfl:(⟨ga,0,none⟩:Addr)=ad:=by simpa using hA
 have e:((⟨ga,0,none⟩:Addr).add (i * 2))=⟨ga,i * 2,none⟩:=by unfold Addr.add;split <;> simp_all
 rw [e] at h1 h2
 rw [atV_eq hl]
 exact ⟨h1,h2⟩
theorem rd_block {w:World} {B ga n:Nat} {l:List V2} (R:RdV w B (some ⟨ga,0,none⟩) n l) (h0:0 < n):ga < B:=by
 obtain ⟨ad,hA,hb,_⟩:=R.2.1.vec (k:=0) (by rw [R.1];exact h0)
 obtain rfl:(⟨ga,0,none⟩:Addr)=ad:=by simpa using hA
 exact hb
set_option maxRecDepth 100000 in
set_option maxHeartbeats 6400000 in
theorem impl_SquareBetween (w:World) (B:Nat) (hB:B≤w.heap.size) (ga n c:Nat) (l:List V2) (R:RdV w B (some ⟨ga,0,none⟩) n l) (hpl:polyP l) (hnc:n≤c) {p0 p1 p2 p3 p4 p5:Value} {P:PQ} (hp:PIn w B p0 p1 p2 p3 p4 p5 P) {q0 q1 q2 q3 q4 q5:Value} {Q:PQ} (hq:PIn w B q0 q1 q2 q3 q4 q5 Q) {T T':Int × Int × Int} (sp:SmallP P T) (sq:SmallP Q T') :
 Calls Tryz.prog 7 #[.slice (some ⟨ga,0,none⟩) n c,.agg #[p0,p1,p2,p3,p4,p5],.agg #[q0,q1,q2,q3,q4,q5]] w fun e w'=>RRes 3 w w' e (sqB l P Q T T'):=by
 have HE:Hid (sqB l P Q T T'=if segM l P Q T then intQ 0 else minQ (leastV (twoD (toP l P T) (toP l Q T')) 1) (leastV (fun i=>sqP (vecP (atV l i).1 (atV l i).2) P Q) (l.length - 1))):=rfl
 generalize sqB l P Q T T'=TT at HE ⊢
 have hn:l.length=n:=R.1
 have hn16:n≤16:=by have:=hpl.2.1;omega
 have hn3:3≤n:=by have:=hpl.1;omega
 obtain ⟨pb,pA,pn,pc,pD,pm,pk,pyb,pyA,pyn,pyc,pyD,pym,pyk,rfl,rfl,rfl,rfl,rfl,rfl⟩:=hp.cut
 obtain ⟨qb,qA,qn,qc,qD,qm,qk,qyb,qyA,qyn,qyc,qyD,qym,qyk,rfl,rfl,rfl,rfl,rfl,rfl⟩:=hq.cut
 have hga:=rd_block R (by omega)
 have hwf:=R.2.2.2
 obtain ⟨W0,hW0⟩:∃ W0,W0=((((w.alloc (.cells #[.slice (some ⟨ga,0,none⟩) n c] 31)).alloc (.cells #[.bool pb,.slice pA pn pc,.slice pD pm pk,.bool pyb,.slice pyA pyn pyc,.slice pyD pym pyk] 29)).alloc (.cells #[.bool qb,.slice qA qn qc,.slice qD qm qk,.bool qyb,.slice qyA qyn qyc,.slice qyD qym qyk] 29)).alloc (.cells #[.bool false,.slice none 0 0,.slice none 0 0] 27)):=⟨_,rfl⟩
 have hT0:Below w.heap.size w W0:=by rw [hW0];exact below_alloc (below_alloc (below_alloc (below_new _ _) _) _) _
 have kl:Box W0 (w.heap.size) 31 #[.slice (some ⟨ga,0,none⟩) n c]:=by rw [hW0];exact (((Box.last _ _ _ rfl).alloc _).alloc _).alloc _
 have kp:Box W0 (w.heap.size+1) 29 #[.bool pb,.slice pA pn pc,.slice pD pm pk,.bool pyb,.slice pyA pyn pyc,.slice pyD pym pyk]:=by rw [hW0];exact ((Box.last _ _ _ (alloc_size _ _).symm).alloc _).alloc _
 have kq:Box W0 (w.heap.size+2) 29 #[.bool qb,.slice qA qn qc,.slice qD qm qk,.bool qyb,.slice qyA qyn qyc,.slice qyD qym qyk]:=by rw [hW0];exact (Box.last _ _ _ (by rw [alloc_size,alloc_size])).alloc _
 have kr:Box W0 (w.heap.size+3) 27 #[.bool false,.slice none 0 0,.slice none 0 0]:=by rw [hW0];exact Box.last _ _ _ (by rw [alloc_size,alloc_size,alloc_size])
 have hs0:W0.heap.size=w.heap.size+4:=by rw [hW0,alloc_size,alloc_size,alloc_size,alloc_size]
 go_enter Tryz.func7,Tryz.ntmps7
 go_upto_region 1 with fail
 rw [←hW0]
 clear hW0
 have hp:=hp.below (hT0.mono hB)
 have hq:=hq.below (hT0.mono hB)
 have R:=R.below (hT0.mono hB)
 have HI:=hide (impl_IsPolygon W0 B (by omega) (some ⟨ga,0,none⟩) n c l R)
 rw [polyB_iff.2 hpl] at HI
 have HSM:=hide (fun (W:World) (h:Below W0.heap.size W0 W)=>impl_SegmentMeets W B (by have:=h.size;omega) (some ⟨ga,0,none⟩) n c l (R.below (h.mono (by omega))) hpl (hp.below (h.mono (by omega))) (hq.below (h.mono (by omega))) sp sq.1)
 have HP:=hide (fun (W:World) (h:Below W0.heap.size W0 W)=>(hp.below (h.mono (by omega))).wider (show B≤W.heap.size from (by have:=h.size;omega)))
 have HQ:=hide (fun (W:World) (h:Below W0.heap.size W0 W)=>(hq.below (h.mono (by omega))).wider (show B≤W.heap.size from (by have:=h.size;omega)))
 have HR:=hide (fun (W:World) (h:Below W0.heap.size W0 W)=>(R.below (h.mono (by omega))).wider (show B≤W.heap.size from (by have:=h.size;omega)))
 obtain ⟨sv,hsv⟩:∃ sv,sv=segM l P Q T:=⟨_,rfl⟩
 rw [←hsv] at HSM HE
 clear hsv hp hq R
 have SP:=hide sp
 have SQ:=hide sq
 clear sp sq
 have HPL:=hide hpl
 clear hpl
 have HWF:=hide hwf
 clear hwf
 have yl0:W0.cell? ⟨w.heap.size,0,none⟩=some (.slice (some ⟨ga,0,none⟩) n c):=kl.cell 0
 go_wp2_with fail
 refine HI.out.mono ?_
 rintro e w1 ⟨rfl,hb1⟩
 have hbW1:=hide hb1
 clear yl0
 have hs1:=hb1.size
 have hT1:=below_then hT0 hb1
 have kl:=kl.below hb1 kl.lt
 have kp:=kp.below hb1 kp.lt
 have kq:=kq.below hb1 kq.lt
 have kr:=kr.below hb1 kr.lt
 clear hT0
 clear hb1 HI
 have yl0:w1.cell? ⟨w.heap.size,0,none⟩=some (.slice (some ⟨ga,0,none⟩) n c):=kl.cell 0
 obtain ⟨yp0,yp1,yp2,yp3,yp4,yp5⟩:=kp.cells6
 obtain ⟨yq0,yq1,yq2,yq3,yq4,yq5⟩:=kq.cells6
 go_wp2_with fail
 refine (HSM.out _ hbW1.out).mono ?_
 rintro e w2 ⟨rfl,hb2⟩
 have hbW2:=hide (below_then hbW1.out hb2)
 clear yl0
 clear yp0 yp1 yp2 yp3 yp4 yp5 yq0 yq1 yq2 yq3 yq4 yq5
 have hs2:=hb2.size
 have hT2:=below_then hT1 hb2
 have kl:=kl.below hb2 kl.lt
 have kp:=kp.below hb2 kp.lt
 have kq:=kq.below hb2 kq.lt
 have kr:=kr.below hb2 kr.lt
 clear hT1
 clear hb2 HSM
 cases sv with
 | true =>
   have HE1:Hid (TT=intQ 0):=HE.out
   clear HE
   go_wp2_with fail
   refine ((impl_intQ w2 0 (by decide))).mono ?_
   rintro e w3 ⟨z0,z1,z2,rfl,oz,hb3⟩
   obtain ⟨zb,zA,zn,zc,zD,zm,zk,rfl,rfl,rfl⟩:=oz.cut
   have hs3:=hb3.size
   have hT3:=below_then hT2 hb3
   have kl:=kl.below hb3 kl.lt
   have kp:=kp.below hb3 kp.lt
   have kq:=kq.below hb3 kq.lt
   have kr:=kr.below hb3 kr.lt
   clear hT2
   clear hb3
   have oz:=oz.r
   have HO:=hide (ret_r kr oz hT3 (by omega) (by omega) (by omega) (.inl (by omega)))
   obtain ⟨s0,s1,s2,z0,z1,z2⟩:=kr.facts3
   clear kr oz
   go_wp2_with fail
   refine bodyPost_ret (results_cell_row rfl _ _ (w.heap.size+3) _ #[.bool zb,.slice zA zn zc,.slice zD zm zk] (0,0) _ rfl HO.out.1 Tryz.underlying27 rfl Tryz.sizeRat) rfl ?_
   rw [HE1.out];exact HO.out.2
 | false =>
   have HE1:Hid (TT=minQ (leastV (twoD (toP l P T) (toP l Q T')) 1) (leastV (fun i=>sqP (vecP (atV l i).1 (atV l i).2) P Q) (n - 1))):=by rw [←hn];exact HE.out
   clear HE
   obtain ⟨w3,hw3⟩:∃ x,x=w2.alloc (.cells #[.bool pb,.slice pA pn pc,.slice pD pm pk,.bool pyb,.slice pyA pyn pyc,.slice pyD pym pyk,.bool qb,.slice qA qn qc,.slice qD qm qk,.bool qyb,.slice qyA qyn qyc,.slice qyD qym qyk] 29):=⟨_,rfl⟩
   have kg:Box w3 w2.heap.size 29 #[.bool pb,.slice pA pn pc,.slice pD pm pk,.bool pyb,.slice pyA pyn pyc,.slice pyD pym pyk,.bool qb,.slice qA qn qc,.slice qD qm qk,.bool qyb,.slice qyA qyn qyc,.slice qyD qym qyk]:=by rw [hw3];exact Box.last _ _ _ rfl
   have hb3:Below w2.heap.size w2 w3:=by rw [hw3];exact below_new _ _
   have hbW3:=hide (below_then hbW2.out hb3)
   have hq3:w3.heap.size=w2.heap.size+1:=by rw [hw3,alloc_size]
   obtain ⟨yp0,yp1,yp2,yp3,yp4,yp5⟩:=kp.cells6
   obtain ⟨yq0,yq1,yq2,yq3,yq4,yq5⟩:=kq.cells6
   go_wp2_with fail
   rw [←hw3]
   clear yp0 yp1 yp2 yp3 yp4 yp5 yq0 yq1 yq2 yq3 yq4 yq5
   have hs3:=hb3.size
   have hT3:=below_then hT2 hb3
   have kl:=kl.below hb3 kl.lt
   have kp:=kp.below hb3 kp.lt
   have kq:=kq.below hb3 kq.lt
   have kr:=kr.below hb3 kr.lt
   clear hT2
   clear hw3 hb3
   have hkl:=kl.lt
   have hkp:=kp.lt
   have hkq:=kq.lt
   have HL:=hide (least_two w3 w2.heap.size kg (HP.out _ hbW3.out) (HQ.out _ hbW3.out) ⟨w.heap.size,0,none⟩ (twoD (toP l P T) (toP l Q T')) (twoD_fit (toP_fit _ _ _) (toP_fit _ _ _)) (fun W h=>clos_end W w.heap.size (some ⟨ga,0,none⟩) n c l (HR.out W (below_then hbW3.out h)) HPL.out (kl.below h hkl) (HP.out W (below_then hbW3.out h)) SP.out) (fun W h=>clos_end W w.heap.size (some ⟨ga,0,none⟩) n c l (HR.out W (below_then hbW3.out h)) HPL.out (kl.below h hkl) (HQ.out W (below_then hbW3.out h)) SQ.out))
   clear kg
   refine HL.out.mono ?_
   rintro e w4 ⟨x0,x1,x2,rfl,ox,hb4⟩
   obtain ⟨xb,xA,xn,xc,xD,xm,xk,rfl,rfl,rfl⟩:=ox.cut
   have hbW4:=hide (below_then hbW3.out hb4)
   have hs4:=hb4.size
   have hT4:=below_then hT3 hb4
   have kl:=kl.below hb4 kl.lt
   have kp:=kp.below hb4 kp.lt
   have kq:=kq.below hb4 kq.lt
   have kr:=kr.below hb4 kr.lt
   clear hT3
   clear hb4 HL
   obtain ⟨w5,hw5⟩:∃ xw,xw=(w4.alloc (.cells #[.bool xb,.slice xA xn xc,.slice xD xm xk] 27)):=⟨_,rfl⟩
   have hb5:Below w4.heap.size w4 w5:=by rw [hw5];exact below_new _ _
   have hq5:w5.heap.size=w4.heap.size+1:=by rw [hw5,alloc_size]
   have ke:Box w5 (w4.heap.size) 27 #[.bool xb,.slice xA xn xc,.slice xD xm xk]:=by rw [hw5];exact Box.last _ _ _ (by omega)
   have hs5:=hb5.size
   have hT5:=below_then hT4 hb5
   have kl:=kl.below hb5 kl.lt
   have kp:=kp.below hb5 kp.lt
   have kq:=kq.below hb5 kq.lt
   have kr:=kr.below hb5 kr.lt
   have ox:=ox.below hb5 (by omega)
   clear hT4
   go_upto_region 6 with fail
   rw [←hw5]
   have hbZ5:=hb5
   clear hw5 hb5
   have hbW5:=hide (below_then hbW4.out hbZ5)
   have hkp:=kp.lt
   have hkq:=kq.lt
   have HL:=hide (least_vecs w5 ga n c l hn hn3 hn16 hnc (rd_cells (HR.out w5 hbW5.out)) (by omega) ⟨w.heap.size+1,0,none⟩ ⟨w.heap.size+2,0,none⟩ (fun i=>sqP (vecP (atV l i).1 (atV l i).2) P Q) (fun _=>sqP_fit _ _ _) (fun W i h hi=>clos_corner W (atV l i).1 (atV l i).2 (by rw [atV_eq (show i < l.length by omega)];exact (wfV_at HWF.out (show i < l.length by omega)).1) (by rw [atV_eq (show i < l.length by omega)];exact (wfV_at HWF.out (show i < l.length by omega)).2) _ _ (kp.below h hkp) (HP.out W (below_then hbW5.out h)) (kq.below h hkq) (HQ.out W (below_then hbW5.out h))))
   have yl0:w5.cell? ⟨w.heap.size,0,none⟩=some (.slice (some ⟨ga,0,none⟩) n c):=kl.cell 0
   go_wp2_with fail
   refine HL.out.mono ?_
   rintro e w6 ⟨y0,y1,y2,rfl,oy,hb6⟩
   obtain ⟨yb,yA,yn,yc,yD,ym,yk,rfl,rfl,rfl⟩:=oy.cut
   clear yl0
   have hs6:=hb6.size
   have hT6:=below_then hT5 hb6
   have kl:=kl.below hb6 kl.lt
   have kp:=kp.below hb6 kp.lt
   have kq:=kq.below hb6 kq.lt
   have kr:=kr.below hb6 kr.lt
   have ke:=ke.below hb6 ke.lt
   have ox:=ox.below hb6 (by omega)
   clear hT5
   clear hb6 HL HP HQ HR hbW1 hbW2 hbW3 hbW4 hbW5 SP SQ HPL HWF
   obtain ⟨w7,hw7⟩:∃ xw,xw=(w6.alloc (.cells #[.bool yb,.slice yA yn yc,.slice yD ym yk] 27)):=⟨_,rfl⟩
   have hb7:Below w6.heap.size w6 w7:=by rw [hw7];exact below_new _ _
   have hq7:w7.heap.size=w6.heap.size+1:=by rw [hw7,alloc_size]
   have kd:Box w7 (w6.heap.size) 27 #[.bool yb,.slice yA yn yc,.slice yD ym yk]:=by rw [hw7];exact Box.last _ _ _ (by omega)
   have hs7:=hb7.size
   have hT7:=below_then hT6 hb7
   have kl:=kl.below hb7 kl.lt
   have kp:=kp.below hb7 kp.lt
   have kq:=kq.below hb7 kq.lt
   have kr:=kr.below hb7 kr.lt
   have ke:=ke.below hb7 ke.lt
   have ox:=ox.below hb7 (by omega)
   have oy:=oy.below hb7 (by omega)
   clear hT6
   go_upto_region 7 with fail
   rw [←hw7]
   clear hw7 hb7
   have HMN:=hide (impl_minQ w7 w7.heap.size (Nat.le_refl _) (ox.in_ (leastV_fit (twoD_fit (toP_fit _ _ _) (toP_fit _ _ _)) _) (by omega)) (oy.in_ (leastV_fit (fun _=>sqP_fit _ _ _) _) (by omega)))
   clear ox oy
   obtain ⟨ye0,ye1,ye2⟩:=ke.cells3
   obtain ⟨yd0,yd1,yd2⟩:=kd.cells3
   go_wp2_with fail
   refine HMN.out.mono ?_
   rintro e w8 ⟨z0,z1,z2,rfl,oz,hb8⟩
   obtain ⟨zb,zA,zn,zc,zD,zm,zk,rfl,rfl,rfl⟩:=oz.cut
   have oz:=oz.r
   clear ye0 ye1 ye2 yd0 yd1 yd2
   have hs8:=hb8.size
   have hT8:=below_then hT7 hb8
   have kl:=kl.below hb8 kl.lt
   have kp:=kp.below hb8 kp.lt
   have kq:=kq.below hb8 kq.lt
   have kr:=kr.below hb8 kr.lt
   have ke:=ke.below hb8 ke.lt
   have kd:=kd.below hb8 kd.lt
   clear hT7
   clear hb8 HMN ke kd kl kp kq
   have HO:=hide (ret_r kr oz hT8 (by omega) (by omega) (by omega) (.inl (by omega)))
   obtain ⟨s0,s1,s2,z0,z1,z2⟩:=kr.facts3
   clear kr oz
   go_wp2_with fail
   refine bodyPost_ret (results_cell_row rfl _ _ (w.heap.size+3) _ #[.bool zb,.slice zA zn zc,.slice zD zm zk] (0,0) _ rfl HO.out.1 Tryz.underlying27 rfl Tryz.sizeRat) rfl ?_
   rw [HE1.out];exact HO.out.2
end Go.Proofs.YtafhhemojdblpaaGreat
