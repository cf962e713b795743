/-
  The program's segments: SegmentMeets, for polygons and points over small scales.
-/
import Derived.Test.YtafhhemojdblpaaGreatSGK
import Derived.Deep.RegionHeld3
import Derived.Deep.CutRange
import Derived.Sort.AtCall
namespace Go.Proofs.YtafhhemojdblpaaGreat
open Go.RowKit
set_option linter.unusedVariables false
/-- a valid point over a small scale -/
def SmallP (P:PQ) (T:Int × Int × Int):Prop:=(ratQ P.1=true∧ratQ P.2=true)∧scP P=T∧T.1.natAbs≤1000000∧T.2.1.natAbs≤1000000∧0 < T.2.2∧T.2.2≤1000
noncomputable def segM (l:List V2) (P Q:PQ) (T:Int × Int × Int):Bool:=decide (0≤contS l T) || anyE (P,Q) l
theorem contains_small (w:World) (B:Nat) (hB:B≤w.heap.size) (A:Option Addr) (n c:Nat) (l:List V2) (R:RdV w B A n l) {p0 p1 p2 p3 p4 p5:Value} {P:PQ} (hP:PIn w B p0 p1 p2 p3 p4 p5 P) {T:Int × Int × Int} (h:SmallP P T) :
 Calls Tryz.prog 14 #[.slice A n c,.agg #[p0,p1,p2,p3,p4,p5]] w fun e w'=>e=.returned (.int .i64 (contS l T))∧Below w.heap.size w w':=by
 obtain ⟨x,y,z⟩:=T
 obtain ⟨hv,hs,h1,h2,h3⟩:=h
 exact impl_ContainsS w B hB A n c l R hP hv.1 hv.2 hs h1 h2 h3
theorem valid_of {P:PQ} (h:ratQ P.1=true∧ratQ P.2=true):validP P=true:=by unfold validP;rw [h.1,h.2];rfl
set_option maxRecDepth 100000 in
set_option maxHeartbeats 6400000 in
theorem impl_SegmentMeets (w:World) (B:Nat) (hB:B≤w.heap.size) (A:Option Addr) (n c:Nat) (l:List V2) (R:RdV w B A n l) (hpl:polyP l) {p0 p1 p2 p3 p4 p5:Value} {pZ:PQ} (hp:PIn w B p0 p1 p2 p3 p4 p5 pZ) {q0 q1 q2 q3 q4 q5:Value} {qZ:PQ} (hq:PIn w B q0 q1 q2 q3 q4 q5 qZ) {T:Int × Int × Int} (sp:SmallP pZ T) (sq:ratQ qZ.1=true∧ratQ qZ.2=true) :
 Calls Tryz.prog 13 #[.slice A n c,.agg #[p0,p1,p2,p3,p4,p5],.agg #[q0,q1,q2,q3,q4,q5]] w fun e w'=>e=.returned (.bool (segM l pZ qZ T))∧Below w.heap.size w w':=by
 have ER:Hid (segM l pZ qZ T=(decide (0≤contS l T) || anyE (pZ,qZ) l)):=rfl
 generalize segM l pZ qZ T=RB at ER ⊢
 have hn:l.length=n:=R.1
 have hn16:n≤16:=by have:=hpl.2.1;omega
 have hn3:3≤n:=by have:=hpl.1;omega
 obtain ⟨W0,hW0⟩:∃ W0,W0=((w.alloc (.cells #[p0,p1,p2,p3,p4,p5] 29)).alloc (.cells #[q0,q1,q2,q3,q4,q5] 29)):=⟨_,rfl⟩
 have hT0:Below w.heap.size w W0:=by rw [hW0];exact below_alloc (below_new _ _) _
 have kp:Box W0 (w.heap.size) 29 #[p0,p1,p2,p3,p4,p5]:=by rw [hW0];exact (Box.last _ _ _ rfl).alloc _
 have kq:Box W0 (w.heap.size+1) 29 #[q0,q1,q2,q3,q4,q5]:=by rw [hW0];exact Box.last _ _ _ (alloc_size _ _).symm
 have hs0:W0.heap.size=w.heap.size+2:=by rw [hW0,alloc_size,alloc_size]
 have hp:=hp.below (hT0.mono hB)
 have hq:=hq.below (hT0.mono hB)
 go_enter Tryz.func13,Tryz.ntmps13
 go_upto_region 1 with fail
 rw [←hW0]
 clear hW0
 obtain ⟨pb,pA,pn,pc,pD,pm,pk,pyb,pyA,pyn,pyc,pyD,pym,pyk,rfl,rfl,rfl,rfl,rfl,rfl⟩:=hp.cut
 obtain ⟨qb,qA,qn,qc,qD,qm,qk,qyb,qyA,qyn,qyc,qyD,qym,qyk,rfl,rfl,rfl,rfl,rfl,rfl⟩:=hq.cut
 have R:=R.below (hT0.mono hB)
 obtain ⟨yp0,yp1,yp2,yp3,yp4,yp5⟩:=kp.cells6
 obtain ⟨yq0,yq1,yq2,yq3,yq4,yq5⟩:=kq.cells6
 obtain ⟨w1,hw1⟩:∃ xw,xw=(W0.alloc (.cells #[.bool pb,.slice pA pn pc,.slice pD pm pk,.bool pyb,.slice pyA pyn pyc,.slice pyD pym pyk,.bool qb,.slice qA qn qc,.slice qD qm qk,.bool qyb,.slice qyA qyn qyc,.slice qyD qym qyk] 64)):=⟨_,rfl⟩
 have hb1:Below W0.heap.size W0 w1:=by rw [hw1];exact below_new _ _
 have hq1:w1.heap.size=W0.heap.size+1:=by rw [hw1,alloc_size]
 have ks:Box w1 (w.heap.size+2) 64 #[.bool pb,.slice pA pn pc,.slice pD pm pk,.bool pyb,.slice pyA pyn pyc,.slice pyD pym pyk,.bool qb,.slice qA qn qc,.slice qD qm qk,.bool qyb,.slice qyA qyn qyc,.slice qyD qym qyk]:=by rw [hw1];exact Box.last _ _ _ (by omega)
 have hs1:=hb1.size
 have hT1:=below_then hT0 hb1
 have kp:=kp.below hb1 kp.lt
 have kq:=kq.below hb1 kq.lt
 have hp:=hp.below (hb1.mono (by omega))
 have hq:=hq.below (hb1.mono (by omega))
 clear hT0
 have hbz:=hb1
 go_upto_region 2 with fail
 rw [←hw1]
 clear hw1 hb1
 clear yp0 yp1 yp2 yp3 yp4 yp5 yq0 yq1 yq2 yq3 yq4 yq5
 skip
 have HR:=hide (fun (W:World) (h:Below W0.heap.size W0 W)=>R.below (h.mono (by omega)))
 have hb01:Below W0.heap.size W0 w1:=hbz
 have HI:=hide (impl_IsPolygon w1 B (by omega) A n c l (HR.out _ hb01))
 rw [polyB_iff.2 hpl] at HI
 have HSV:=hide (fun (W:World) (h:Below w1.heap.size w1 W)=>impl_segValid W B (by have:=h.size;omega) (pZ:=(pZ,qZ)) ⟨hp.below (h.mono (by omega)),hq.below (h.mono (by omega))⟩)
 rw [valid_of sp.1,valid_of sq] at HSV
 have HCP:=hide (fun (W:World) (h:Below w1.heap.size w1 W)=>contains_small W B (by have:=h.size;omega) A n c l (HR.out _ (below_then hb01 h)) (hp.below (h.mono (by omega))) sp)
 have HBO:=hide (fun (W:World) (h:Below w1.heap.size w1 W)=>impl_boundaryOf W B (by have:=h.size;omega) A n c l (HR.out _ (below_then hb01 h)) (by omega) (by omega))
 have HAM:=hide (fun (W:World) (h:Below w1.heap.size w1 W) (g:Nat) (hE:EdgesAt W g l) (hg:g < W.heap.size)=>impl_anyMeets W B (by have:=h.size;omega) (S:=(pZ,qZ)) ⟨hp.below (h.mono (by omega)),hq.below (h.mono (by omega))⟩ ⟨sp.1,sq⟩ g n l hpl hn hE hg)
 obtain ⟨cv,hcv⟩:∃ cv,cv=contS l T:=⟨_,rfl⟩
 rw [←hcv] at HCP ER
 have hcr:-1≤cv∧cv≤1:=by rw [hcv];unfold contS;split;exact inS_range _ _ _;omega
 obtain ⟨ev,hev⟩:∃ ev,ev=anyE (pZ,qZ) l:=⟨_,rfl⟩
 rw [←hev] at HAM ER
 clear hcv hev hp hq R sp sq HR hpl
 go_wp2_with fail
 refine HI.out.mono ?_
 rintro e w2 ⟨rfl,hb2⟩
 clear HI
 have ks2:=ks.below hb2 ks.lt
 have kp2:=kp.below hb2 kp.lt
 obtain ⟨y0,y1,y2,y3,y4,y5,y6,y7,y8,y9,y10,y11⟩:=ks2.cells12
 go_wp2_with fail
 refine (HSV.out _ hb2).mono ?_
 rintro e w3 ⟨rfl,hb3'⟩
 have hb3:=below_then hb2 hb3'
 clear HSV y0 y1 y2 y3 y4 y5 y6 y7 y8 y9 y10 y11
 have HBs:=hide (ks2.below hb3' ks2.lt)
 have HBp:=hide (kp2.below hb3' kp2.lt)
 have hT3:=below_then hT1 hb3
 clear ks ks2 kp kp2 kq hb2 hb3'
 go_upto_region 4 with fail
 have HS0:Hid (Below w3.heap.size w3 w3.drew):=(Below.refl _ _).drew
 have HKS:=hide (fun (W:World) (hq:Below w3.heap.size w3 W)=>(⟨(HBs.out.below hq HBs.out.lt).cell 0,(HBs.out.below hq HBs.out.lt).cell 1,(HBs.out.below hq HBs.out.lt).cell 2,(HBs.out.below hq HBs.out.lt).cell 3,(HBs.out.below hq HBs.out.lt).cell 4,(HBs.out.below hq HBs.out.lt).cell 5,(HBs.out.below hq HBs.out.lt).cell 6,(HBs.out.below hq HBs.out.lt).cell 7,(HBs.out.below hq HBs.out.lt).cell 8,(HBs.out.below hq HBs.out.lt).cell 9,(HBs.out.below hq HBs.out.lt).cell 10,(HBs.out.below hq HBs.out.lt).cell 11,(HBp.out.below hq HBp.out.lt).cell 0,(HBp.out.below hq HBp.out.lt).cell 1,(HBp.out.below hq HBp.out.lt).cell 2,(HBp.out.below hq HBp.out.lt).cell 3,(HBp.out.below hq HBp.out.lt).cell 4,(HBp.out.below hq HBp.out.lt).cell 5⟩:W.cell? ⟨w.heap.size+2,0,none⟩=some (.bool pb)∧W.cell? ⟨w.heap.size+2,1,none⟩=some (.slice pA pn pc)∧W.cell? ⟨w.heap.size+2,2,none⟩=some (.slice pD pm pk)∧W.cell? ⟨w.heap.size+2,3,none⟩=some (.bool pyb)∧W.cell? ⟨w.heap.size+2,4,none⟩=some (.slice pyA pyn pyc)∧W.cell? ⟨w.heap.size+2,5,none⟩=some (.slice pyD pym pyk)∧W.cell? ⟨w.heap.size+2,6,none⟩=some (.bool qb)∧W.cell? ⟨w.heap.size+2,7,none⟩=some (.slice qA qn qc)∧W.cell? ⟨w.heap.size+2,8,none⟩=some (.slice qD qm qk)∧W.cell? ⟨w.heap.size+2,9,none⟩=some (.bool qyb)∧W.cell? ⟨w.heap.size+2,10,none⟩=some (.slice qyA qyn qyc)∧W.cell? ⟨w.heap.size+2,11,none⟩=some (.slice qyD qym qyk)∧W.cell? ⟨w.heap.size,0,none⟩=some (.bool pb)∧W.cell? ⟨w.heap.size,1,none⟩=some (.slice pA pn pc)∧W.cell? ⟨w.heap.size,2,none⟩=some (.slice pD pm pk)∧W.cell? ⟨w.heap.size,3,none⟩=some (.bool pyb)∧W.cell? ⟨w.heap.size,4,none⟩=some (.slice pyA pyn pyc)∧W.cell? ⟨w.heap.size,5,none⟩=some (.slice pyD pym pyk)))
 by_cases hc:0≤cv
 · have hd:decide (0≤cv)=true:=decide_eq_true hc
   have hc':(0≤cv)=True:=eq_true hc
   refine wp_region_held_drew (S:=(fun w'=>w'.cell? ⟨w.heap.size+2,0,none⟩=some (.bool pb)∧w'.cell? ⟨w.heap.size+2,1,none⟩=some (.slice pA pn pc)∧w'.cell? ⟨w.heap.size+2,2,none⟩=some (.slice pD pm pk)∧w'.cell? ⟨w.heap.size+2,3,none⟩=some (.bool pyb)∧w'.cell? ⟨w.heap.size+2,4,none⟩=some (.slice pyA pyn pyc)∧w'.cell? ⟨w.heap.size+2,5,none⟩=some (.slice pyD pym pyk)∧w'.cell? ⟨w.heap.size+2,6,none⟩=some (.bool qb)∧w'.cell? ⟨w.heap.size+2,7,none⟩=some (.slice qA qn qc)∧w'.cell? ⟨w.heap.size+2,8,none⟩=some (.slice qD qm qk)∧w'.cell? ⟨w.heap.size+2,9,none⟩=some (.bool qyb)∧w'.cell? ⟨w.heap.size+2,10,none⟩=some (.slice qyA qyn qyc)∧w'.cell? ⟨w.heap.size+2,11,none⟩=some (.slice qyD qym qyk)∧w'.cell? ⟨w.heap.size,0,none⟩=some (.bool pb)∧w'.cell? ⟨w.heap.size,1,none⟩=some (.slice pA pn pc)∧w'.cell? ⟨w.heap.size,2,none⟩=some (.slice pD pm pk)∧w'.cell? ⟨w.heap.size,3,none⟩=some (.bool pyb)∧w'.cell? ⟨w.heap.size,4,none⟩=some (.slice pyA pyn pyc)∧w'.cell? ⟨w.heap.size,5,none⟩=some (.slice pyD pym pyk))) (by kernel_rfl) (HKS.out _ HS0.out) (fun hHeld=>?_)
   show wpAnyH _ _ _ _ _ 12 _ _ _
   refine takeTQ (i:=0) (t:=19) (v:=?_) rfl (by kernel_rfl) (by kernel_rfl) (by kernel_rfl) (fun _ _ _ h=>h) rfl (by rfl) ?_ hHeld ?_
   rotate_left 1
   · intro w hSw;(try dsimp only at hSw);go_simp;with_reducible rfl
   refine takeTQ (i:=1) (t:=20) (v:=?_) rfl (by kernel_rfl) (by kernel_rfl) (by kernel_rfl) (fun _ _ _ h=>h) rfl (by rfl) ?_ hHeld ?_
   rotate_left 1
   · intro w hSw;(try dsimp only at hSw);go_simp;with_reducible rfl
   refine wpAnyH_ready (rs:=[2]) (by kernel_rfl) (by simp) ?_
   refine AllReadyH.cons rfl (fun K hK=>?_) AllReadyH.nil
   simp only [List.getElem_toArray,List.getElem_cons_succ,List.getElem_cons_zero]
   go_simp
   (have HX:=HS0.out;(with_reducible refine Calls.mono (HCP.out _ (below_then hb3 HX)) ?_);rintro e u1 ⟨rfl,hb1⟩;have HS1:=hide (below_then HX hb1);clear HX)
   go_wp2_with fail
   refine hK.out _ _ (HKS.out _ HS1.out) (fun hHeld=>?_)
   clear hK K
   refine takeTQ (i:=3) (t:=22) (v:=?_) rfl (by kernel_rfl) (by kernel_rfl) (by kernel_rfl) (fun _ _ _ h=>h) rfl (by rfl) ?_ hHeld ?_
   rotate_left 1
   · intro w hSw;(try dsimp only at hSw);go_simp;with_reducible rfl
   refine takeTQ (i:=4) (t:=23) (v:=?_) rfl (by kernel_rfl) (by kernel_rfl) (by kernel_rfl) (fun _ _ _ h=>h) rfl (by rfl) ?_ hHeld ?_
   rotate_left 1
   · intro w hSw;(try dsimp only at hSw);go_simp;with_reducible rfl
   refine skipTQ (i:=5) (t:=24) rfl (by kernel_rfl) (by kernel_rfl) (by kernel_rfl) (fun _ _ _ h=>h) rfl (by rfl) hHeld ?_
   simp only [List.setIfInBounds_toArray,List.set_cons_zero,List.set_cons_succ]
   refine skipTQ (i:=7) (t:=26) rfl (by kernel_rfl) (by kernel_rfl) (by kernel_rfl) (fun _ _ _ h=>h) rfl (by rfl) hHeld ?_
   simp only [List.setIfInBounds_toArray,List.set_cons_zero,List.set_cons_succ]
   refine skipTQ (i:=8) (t:=27) rfl (by kernel_rfl) (by kernel_rfl) (by kernel_rfl) (fun _ _ _ h=>h) rfl (by rfl) hHeld ?_
   simp only [List.setIfInBounds_toArray,List.set_cons_zero,List.set_cons_succ]
   refine skipCQ (i:=6) (t:=25) (by kernel_rfl) rfl rfl (by rfl) hHeld ?_
   simp only [List.setIfInBounds_toArray,List.set_cons_zero,List.set_cons_succ]
   refine skipCQ (i:=9) (t:=28) (by kernel_rfl) rfl rfl (by rfl) hHeld ?_
   simp only [List.setIfInBounds_toArray,List.set_cons_zero,List.set_cons_succ]
   refine takeTQ (i:=10) (t:=29) (v:=?_) rfl (by kernel_rfl) (by kernel_rfl) (by kernel_rfl) (fun _ _ _ h=>h) rfl (by rfl) ?_ hHeld ?_
   rotate_left 1
   · intro w hSw;(try dsimp only at hSw);go_simp;with_reducible rfl
   refine takeTQ (i:=11) (t:=6) (v:=?_) rfl (by kernel_rfl) (by kernel_rfl) (by kernel_rfl) (fun _ _ _ h=>h) rfl (by rfl) ?_ hHeld ?_
   rotate_left 1
   · intro w hSw;(try dsimp only at hSw);go_simp;with_reducible rfl
   refine wpAnyH_done (by kernel_rfl) ?_ _
   go_wp2_with fail
   go_ret
   exact ⟨by rw [ER.out,hd];rfl,below_then hT3 HS1.out⟩
 · have hd:decide (0≤cv)=false:=decide_eq_false hc
   have hc':(0≤cv)=False:=eq_false hc
   refine wp_region_held_drew (S:=(fun w'=>w'.cell? ⟨w.heap.size+2,0,none⟩=some (.bool pb)∧w'.cell? ⟨w.heap.size+2,1,none⟩=some (.slice pA pn pc)∧w'.cell? ⟨w.heap.size+2,2,none⟩=some (.slice pD pm pk)∧w'.cell? ⟨w.heap.size+2,3,none⟩=some (.bool pyb)∧w'.cell? ⟨w.heap.size+2,4,none⟩=some (.slice pyA pyn pyc)∧w'.cell? ⟨w.heap.size+2,5,none⟩=some (.slice pyD pym pyk)∧w'.cell? ⟨w.heap.size+2,6,none⟩=some (.bool qb)∧w'.cell? ⟨w.heap.size+2,7,none⟩=some (.slice qA qn qc)∧w'.cell? ⟨w.heap.size+2,8,none⟩=some (.slice qD qm qk)∧w'.cell? ⟨w.heap.size+2,9,none⟩=some (.bool qyb)∧w'.cell? ⟨w.heap.size+2,10,none⟩=some (.slice qyA qyn qyc)∧w'.cell? ⟨w.heap.size+2,11,none⟩=some (.slice qyD qym qyk)∧w'.cell? ⟨w.heap.size,0,none⟩=some (.bool pb)∧w'.cell? ⟨w.heap.size,1,none⟩=some (.slice pA pn pc)∧w'.cell? ⟨w.heap.size,2,none⟩=some (.slice pD pm pk)∧w'.cell? ⟨w.heap.size,3,none⟩=some (.bool pyb)∧w'.cell? ⟨w.heap.size,4,none⟩=some (.slice pyA pyn pyc)∧w'.cell? ⟨w.heap.size,5,none⟩=some (.slice pyD pym pyk))) (by kernel_rfl) (HKS.out _ HS0.out) (fun hHeld=>?_)
   show wpAnyH _ _ _ _ _ 12 _ _ _
   refine takeTQ (i:=0) (t:=19) (v:=?_) rfl (by kernel_rfl) (by kernel_rfl) (by kernel_rfl) (fun _ _ _ h=>h) rfl (by rfl) ?_ hHeld ?_
   rotate_left 1
   · intro w hSw;(try dsimp only at hSw);go_simp;with_reducible rfl
   refine takeTQ (i:=1) (t:=20) (v:=?_) rfl (by kernel_rfl) (by kernel_rfl) (by kernel_rfl) (fun _ _ _ h=>h) rfl (by rfl) ?_ hHeld ?_
   rotate_left 1
   · intro w hSw;(try dsimp only at hSw);go_simp;with_reducible rfl
   refine wpAnyH_ready (rs:=[2]) (by kernel_rfl) (by simp) ?_
   refine AllReadyH.cons rfl (fun K hK=>?_) AllReadyH.nil
   simp only [List.getElem_toArray,List.getElem_cons_succ,List.getElem_cons_zero]
   go_simp
   (have HX:=HS0.out;(with_reducible refine Calls.mono (HCP.out _ (below_then hb3 HX)) ?_);rintro e u1 ⟨rfl,hb1⟩;have HS1:=hide (below_then HX hb1);clear HX)
   go_wp2_with fail
   refine hK.out _ _ (HKS.out _ HS1.out) (fun hHeld=>?_)
   clear hK K
   refine takeTQ (i:=3) (t:=22) (v:=?_) rfl (by kernel_rfl) (by kernel_rfl) (by kernel_rfl) (fun _ _ _ h=>h) rfl (by rfl) ?_ hHeld ?_
   rotate_left 1
   · intro w hSw;(try dsimp only at hSw);go_simp;with_reducible rfl
   refine takeTQ (i:=4) (t:=23) (v:=?_) rfl (by kernel_rfl) (by kernel_rfl) (by kernel_rfl) (fun _ _ _ h=>h) rfl (by rfl) ?_ hHeld ?_
   rotate_left 1
   · intro w hSw;(try dsimp only at hSw);go_simp;with_reducible rfl
   refine takeTQ (i:=5) (t:=24) (v:=?_) rfl (by kernel_rfl) (by kernel_rfl) (by kernel_rfl) (fun _ _ _ h=>h) rfl (by rfl) ?_ hHeld ?_
   rotate_left 1
   · intro w hSw;(try dsimp only at hSw);go_simp;with_reducible rfl
   refine takeTQ (i:=7) (t:=26) (v:=?_) rfl (by kernel_rfl) (by kernel_rfl) (by kernel_rfl) (fun _ _ _ h=>h) rfl (by rfl) ?_ hHeld ?_
   rotate_left 1
   · intro w hSw;(try dsimp only at hSw);go_simp;with_reducible rfl
   refine takeTQ (i:=8) (t:=27) (v:=?_) rfl (by kernel_rfl) (by kernel_rfl) (by kernel_rfl) (fun _ _ _ h=>h) rfl (by rfl) ?_ hHeld ?_
   rotate_left 1
   · intro w hSw;(try dsimp only at hSw);go_simp;with_reducible rfl
   refine wpAnyH_ready (rs:=[6]) (by kernel_rfl) (by simp) ?_
   refine AllReadyH.cons rfl (fun K hK=>?_) AllReadyH.nil
   simp only [List.getElem_toArray,List.getElem_cons_succ,List.getElem_cons_zero]
   go_simp
   (have HX:=HS1.out;(with_reducible refine Calls.mono (HBO.out _ (below_then hb3 HX)) ?_);rintro e u2 ⟨gr,rfl,hgl,hgr,hEd,hb2⟩;have HS2:=hide (below_then HX hb2);clear HX)
   go_wp2_with fail
   refine hK.out _ _ (HKS.out _ HS2.out) (fun hHeld=>?_)
   clear hK K
   refine wpAnyH_ready (rs:=[9]) (by kernel_rfl) (by simp) ?_
   refine AllReadyH.cons rfl (fun K hK=>?_) AllReadyH.nil
   simp only [List.getElem_toArray,List.getElem_cons_succ,List.getElem_cons_zero]
   go_simp
   (have HX:=HS2.out;(with_reducible refine Calls.mono (HAM.out _ (below_then hb3 HX) gr hEd hgr) ?_);rintro e u3 ⟨rfl,hb4⟩;have HS3:=hide (below_then HX hb4);clear HX)
   go_wp2_with fail
   refine hK.out _ _ (HKS.out _ HS3.out) (fun hHeld=>?_)
   clear hK K
   refine takeTQ (i:=10) (t:=29) (v:=?_) rfl (by kernel_rfl) (by kernel_rfl) (by kernel_rfl) (fun _ _ _ h=>h) rfl (by rfl) ?_ hHeld ?_
   rotate_left 1
   · intro w hSw;(try dsimp only at hSw);go_simp;with_reducible rfl
   refine takeTQ (i:=11) (t:=6) (v:=?_) rfl (by kernel_rfl) (by kernel_rfl) (by kernel_rfl) (fun _ _ _ h=>h) rfl (by rfl) ?_ hHeld ?_
   rotate_left 1
   · intro w hSw;(try dsimp only at hSw);go_simp;with_reducible rfl
   refine wpAnyH_done (by kernel_rfl) ?_ _
   go_wp2_with fail
   go_ret
   exact ⟨by rw [ER.out,hd];rfl,below_then hT3 HS3.out⟩
end Go.Proofs.YtafhhemojdblpaaGreat
