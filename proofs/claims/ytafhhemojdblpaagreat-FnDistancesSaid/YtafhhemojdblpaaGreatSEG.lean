/-
  The texts SegI, SegI2, put together; each has its own heading below. No condition of ours.
-/
import Derived.Test.YtafhhemojdblpaaGreatSegP
import Derived.Test.YtafhhemojdblpaaGreatPJ
import Derived.Test.YtafhhemojdblpaaGreatPI
import Derived.Deep.RegionHeld3
import Derived.Deep.CutRange
import Derived.Sort.AtCall
/-
  The program's segments: contracts (1): InnerProduct, SquareToSegment.
-/
namespace Go.Proofs.YtafhhemojdblpaaGreat
open Go.RowKit
set_option linter.unusedVariables false
set_option maxRecDepth 100000 in
set_option maxHeartbeats 3200000 in
theorem impl_InnerProduct (w:World) (B:Nat) (hB:B≤w.heap.size) {p0 p1 p2 p3 p4 p5:Value} {pZ:PQ} (hp:PIn w B p0 p1 p2 p3 p4 p5 pZ) {q0 q1 q2 q3 q4 q5:Value} {qZ:PQ} (hq:PIn w B q0 q1 q2 q3 q4 q5 qZ) {m0 m1 m2 m3 m4 m5:Value} {mZ:PQ} (hm:PIn w B m0 m1 m2 m3 m4 m5 mZ) :
 Calls Tryz.prog 19 #[.agg #[p0,p1,p2,p3,p4,p5],.agg #[q0,q1,q2,q3,q4,q5],.agg #[m0,m1,m2,m3,m4,m5]] w fun e w'=>QRes 3 w w' e (innP pZ qZ mZ):=by
 obtain ⟨W0,hW0⟩:∃ W0,W0=((((w.alloc (.cells #[p0,p1,p2,p3,p4,p5] 29)).alloc (.cells #[q0,q1,q2,q3,q4,q5] 29)).alloc (.cells #[m0,m1,m2,m3,m4,m5] 29)).alloc (.cells #[.bool false,.slice none 0 0,.slice none 0 0] 27)):=⟨_,rfl⟩
 have hT0:Below w.heap.size w W0:=by rw [hW0];exact below_alloc (below_alloc (below_alloc (below_new _ _) _) _) _
 have kp:Box W0 (w.heap.size) 29 #[p0,p1,p2,p3,p4,p5]:=by rw [hW0];exact (((Box.last _ _ _ rfl).alloc _).alloc _).alloc _
 have kq:Box W0 (w.heap.size+1) 29 #[q0,q1,q2,q3,q4,q5]:=by rw [hW0];exact ((Box.last _ _ _ (alloc_size _ _).symm).alloc _).alloc _
 have km:Box W0 (w.heap.size+2) 29 #[m0,m1,m2,m3,m4,m5]:=by rw [hW0];exact (Box.last _ _ _ (by rw [alloc_size,alloc_size])).alloc _
 have kr:Box W0 (w.heap.size+3) 27 #[.bool false,.slice none 0 0,.slice none 0 0]:=by rw [hW0];exact Box.last _ _ _ (by rw [alloc_size,alloc_size,alloc_size])
 have hs0:W0.heap.size=w.heap.size+4:=by rw [hW0,alloc_size,alloc_size,alloc_size,alloc_size]
 have hp:=hp.below (hT0.mono hB)
 have hq:=hq.below (hT0.mono hB)
 have hm:=hm.below (hT0.mono hB)
 go_enter Tryz.func19,Tryz.ntmps19
 go_upto_region 1 with fail
 rw [←hW0]
 clear hW0
 obtain ⟨yp0,yp1,yp2,yp3,yp4,yp5⟩:=kp.cells6
 obtain ⟨yq0,yq1,yq2,yq3,yq4,yq5⟩:=kq.cells6
 go_wp2_with fail
 refine (impl_differences W0 B (by omega) hp hq).mono ?_
 rintro e w1 ⟨fx0,fx1,fx2,fy0,fy1,fy2,lfx,hfxi,lfy,hfyi,rfl,ofx,ofy,glfx,glfy,ghfx,ghfy,hb1⟩
 clear yp0 yp1 yp2 yp3 yp4 yp5 yq0 yq1 yq2 yq3 yq4 yq5
 obtain ⟨fxb,fxA,fxn,fxc,fxD,fxm,fxk,rfl,rfl,rfl⟩:=ofx.cut
 obtain ⟨fyb,fyA,fyn,fyc,fyD,fym,fyk,rfl,rfl,rfl⟩:=ofy.cut
 have hs1:=hb1.size
 have hT1:=below_then hT0 hb1
 have kp:=kp.below hb1 kp.lt
 have kq:=kq.below hb1 kq.lt
 have km:=km.below hb1 km.lt
 have kr:=kr.below hb1 kr.lt
 have hp:=hp.below (hb1.mono (by omega))
 have hq:=hq.below (hb1.mono (by omega))
 have hm:=hm.below (hb1.mono (by omega))
 clear hT0
 clear hb1
 obtain ⟨w2,hw2⟩:∃ xw,xw=((w1.alloc (.cells #[.bool fxb,.slice fxA fxn fxc,.slice fxD fxm fxk] 27)).alloc (.cells #[.bool fyb,.slice fyA fyn fyc,.slice fyD fym fyk] 27)):=⟨_,rfl⟩
 have hb2:Below w1.heap.size w1 w2:=by rw [hw2];exact below_alloc (below_new _ _) _
 have hq2:w2.heap.size=w1.heap.size+2:=by rw [hw2,alloc_size,alloc_size]
 have kfx:Box w2 (w1.heap.size) 27 #[.bool fxb,.slice fxA fxn fxc,.slice fxD fxm fxk]:=by rw [hw2];exact (Box.last _ _ _ (by omega)).alloc _
 have kfy:Box w2 (w1.heap.size+1) 27 #[.bool fyb,.slice fyA fyn fyc,.slice fyD fym fyk]:=by rw [hw2];exact Box.last _ _ _ (by rw [alloc_size];try omega)
 have hs2:=hb2.size
 have hT2:=below_then hT1 hb2
 have kp:=kp.below hb2 kp.lt
 have kq:=kq.below hb2 kq.lt
 have km:=km.below hb2 km.lt
 have kr:=kr.below hb2 kr.lt
 have hp:=hp.below (hb2.mono (by omega))
 have hq:=hq.below (hb2.mono (by omega))
 have hm:=hm.below (hb2.mono (by omega))
 have ofx:=ofx.below hb2 (by omega)
 have ofy:=ofy.below hb2 (by omega)
 clear hT1
 go_upto_region 2 with fail
 rw [←hw2]
 clear hw2 hb2
 obtain ⟨yp0,yp1,yp2,yp3,yp4,yp5⟩:=kp.cells6
 obtain ⟨ym0,ym1,ym2,ym3,ym4,ym5⟩:=km.cells6
 go_wp2_with fail
 refine (impl_differences w2 B (by omega) hp hm).mono ?_
 rintro e w3 ⟨sx0,sx1,sx2,sy0,sy1,sy2,lsx,hsxi,lsy,hsyi,rfl,osx,osy,glsx,glsy,ghsx,ghsy,hb3⟩
 clear yp0 yp1 yp2 yp3 yp4 yp5 ym0 ym1 ym2 ym3 ym4 ym5
 obtain ⟨sxb,sxA,sxn,sxc,sxD,sxm,sxk,rfl,rfl,rfl⟩:=osx.cut
 obtain ⟨syb,syA,syn,syc,syD,sym,syk,rfl,rfl,rfl⟩:=osy.cut
 have hs3:=hb3.size
 have hT3:=below_then hT2 hb3
 have kp:=kp.below hb3 kp.lt
 have kq:=kq.below hb3 kq.lt
 have km:=km.below hb3 km.lt
 have kr:=kr.below hb3 kr.lt
 have kfx:=kfx.below hb3 kfx.lt
 have kfy:=kfy.below hb3 kfy.lt
 have hp:=hp.below (hb3.mono (by omega))
 have hq:=hq.below (hb3.mono (by omega))
 have hm:=hm.below (hb3.mono (by omega))
 have ofx:=ofx.below hb3 (by omega)
 have ofy:=ofy.below hb3 (by omega)
 clear hT2
 clear hb3
 obtain ⟨w4,hw4⟩:∃ xw,xw=((w3.alloc (.cells #[.bool sxb,.slice sxA sxn sxc,.slice sxD sxm sxk] 27)).alloc (.cells #[.bool syb,.slice syA syn syc,.slice syD sym syk] 27)):=⟨_,rfl⟩
 have hb4:Below w3.heap.size w3 w4:=by rw [hw4];exact below_alloc (below_new _ _) _
 have hq4:w4.heap.size=w3.heap.size+2:=by rw [hw4,alloc_size,alloc_size]
 have ksx:Box w4 (w3.heap.size) 27 #[.bool sxb,.slice sxA sxn sxc,.slice sxD sxm sxk]:=by rw [hw4];exact (Box.last _ _ _ (by omega)).alloc _
 have ksy:Box w4 (w3.heap.size+1) 27 #[.bool syb,.slice syA syn syc,.slice syD sym syk]:=by rw [hw4];exact Box.last _ _ _ (by rw [alloc_size];try omega)
 have hs4:=hb4.size
 have hT4:=below_then hT3 hb4
 have kp:=kp.below hb4 kp.lt
 have kq:=kq.below hb4 kq.lt
 have km:=km.below hb4 km.lt
 have kr:=kr.below hb4 kr.lt
 have kfx:=kfx.below hb4 kfx.lt
 have kfy:=kfy.below hb4 kfy.lt
 have hp:=hp.below (hb4.mono (by omega))
 have hq:=hq.below (hb4.mono (by omega))
 have hm:=hm.below (hb4.mono (by omega))
 have ofx:=ofx.below hb4 (by omega)
 have ofy:=ofy.below hb4 (by omega)
 have osx:=osx.below hb4 (by omega)
 have osy:=osy.below hb4 (by omega)
 clear hT3
 go_upto_region 3 with fail
 rw [←hw4]
 clear hw4 hb4
 have hfx:QIn w4 w4.heap.size (.bool fxb) (.slice fxA fxn fxc) (.slice fxD fxm fxk) _:=ofx.in_ (subQ_fit _ _) (by omega)
 have hfy:QIn w4 w4.heap.size (.bool fyb) (.slice fyA fyn fyc) (.slice fyD fym fyk) _:=ofy.in_ (subQ_fit _ _) (by omega)
 have hsx:QIn w4 w4.heap.size (.bool sxb) (.slice sxA sxn sxc) (.slice sxD sxm sxk) _:=osx.in_ (subQ_fit _ _) (by omega)
 have hsy:QIn w4 w4.heap.size (.bool syb) (.slice syA syn syc) (.slice syD sym syk) _:=osy.in_ (subQ_fit _ _) (by omega)
 have HC1:=hide (fun (W:World) (h:Below w4.heap.size w4 W)=>impl_mulQ W w4.heap.size h.size (hfx.below h) (hsx.below h))
 have HC2:=hide (fun (W:World) (h:Below w4.heap.size w4 W)=>impl_mulQ W w4.heap.size h.size (hfy.below h) (hsy.below h))
 clear hp hq hm kp kq km hfx ofx hfy ofy hsx osx hsy osy
 have HBfx:=hide kfx
 have HBfy:=hide kfy
 have HBsx:=hide ksx
 have HBsy:=hide ksy
 have HS0:Hid (Below w4.heap.size w4 w4.drew):=(Below.refl _ _).drew
 have HKS:=hide (fun (W:World) (hq:Below w4.heap.size w4 W)=>(⟨(HBfx.out.below hq HBfx.out.lt).cell 0,(HBfx.out.below hq HBfx.out.lt).cell 1,(HBfx.out.below hq HBfx.out.lt).cell 2,(HBfy.out.below hq HBfy.out.lt).cell 0,(HBfy.out.below hq HBfy.out.lt).cell 1,(HBfy.out.below hq HBfy.out.lt).cell 2,(HBsx.out.below hq HBsx.out.lt).cell 0,(HBsx.out.below hq HBsx.out.lt).cell 1,(HBsx.out.below hq HBsx.out.lt).cell 2,(HBsy.out.below hq HBsy.out.lt).cell 0,(HBsy.out.below hq HBsy.out.lt).cell 1,(HBsy.out.below hq HBsy.out.lt).cell 2⟩:W.cell? ⟨w1.heap.size,0,none⟩=some (.bool fxb)∧W.cell? ⟨w1.heap.size,1,none⟩=some (.slice fxA fxn fxc)∧W.cell? ⟨w1.heap.size,2,none⟩=some (.slice fxD fxm fxk)∧W.cell? ⟨w1.heap.size+1,0,none⟩=some (.bool fyb)∧W.cell? ⟨w1.heap.size+1,1,none⟩=some (.slice fyA fyn fyc)∧W.cell? ⟨w1.heap.size+1,2,none⟩=some (.slice fyD fym fyk)∧W.cell? ⟨w3.heap.size,0,none⟩=some (.bool sxb)∧W.cell? ⟨w3.heap.size,1,none⟩=some (.slice sxA sxn sxc)∧W.cell? ⟨w3.heap.size,2,none⟩=some (.slice sxD sxm sxk)∧W.cell? ⟨w3.heap.size+1,0,none⟩=some (.bool syb)∧W.cell? ⟨w3.heap.size+1,1,none⟩=some (.slice syA syn syc)∧W.cell? ⟨w3.heap.size+1,2,none⟩=some (.slice syD sym syk)))
 have HRr:=hide kr
 have HKT0:=hide (fun (W:World) (hq:Below w4.heap.size w4 W) (x0 x1 x2:Value)=>(⟨((((HBfx.out.below hq HBfx.out.lt).setv (show w1.heap.size ≠ w.heap.size+3 by omega) 0 x0).setv (show w1.heap.size ≠ w.heap.size+3 by omega) 1 x1).setv (show w1.heap.size ≠ w.heap.size+3 by omega) 2 x2).cell 0,((((HBfx.out.below hq HBfx.out.lt).setv (show w1.heap.size ≠ w.heap.size+3 by omega) 0 x0).setv (show w1.heap.size ≠ w.heap.size+3 by omega) 1 x1).setv (show w1.heap.size ≠ w.heap.size+3 by omega) 2 x2).cell 1,((((HBfx.out.below hq HBfx.out.lt).setv (show w1.heap.size ≠ w.heap.size+3 by omega) 0 x0).setv (show w1.heap.size ≠ w.heap.size+3 by omega) 1 x1).setv (show w1.heap.size ≠ w.heap.size+3 by omega) 2 x2).cell 2,((((HBfy.out.below hq HBfy.out.lt).setv (show w1.heap.size+1 ≠ w.heap.size+3 by omega) 0 x0).setv (show w1.heap.size+1 ≠ w.heap.size+3 by omega) 1 x1).setv (show w1.heap.size+1 ≠ w.heap.size+3 by omega) 2 x2).cell 0,((((HBfy.out.below hq HBfy.out.lt).setv (show w1.heap.size+1 ≠ w.heap.size+3 by omega) 0 x0).setv (show w1.heap.size+1 ≠ w.heap.size+3 by omega) 1 x1).setv (show w1.heap.size+1 ≠ w.heap.size+3 by omega) 2 x2).cell 1,((((HBfy.out.below hq HBfy.out.lt).setv (show w1.heap.size+1 ≠ w.heap.size+3 by omega) 0 x0).setv (show w1.heap.size+1 ≠ w.heap.size+3 by omega) 1 x1).setv (show w1.heap.size+1 ≠ w.heap.size+3 by omega) 2 x2).cell 2,((((HBsx.out.below hq HBsx.out.lt).setv (show w3.heap.size ≠ w.heap.size+3 by omega) 0 x0).setv (show w3.heap.size ≠ w.heap.size+3 by omega) 1 x1).setv (show w3.heap.size ≠ w.heap.size+3 by omega) 2 x2).cell 0,((((HBsx.out.below hq HBsx.out.lt).setv (show w3.heap.size ≠ w.heap.size+3 by omega) 0 x0).setv (show w3.heap.size ≠ w.heap.size+3 by omega) 1 x1).setv (show w3.heap.size ≠ w.heap.size+3 by omega) 2 x2).cell 1,((((HBsx.out.below hq HBsx.out.lt).setv (show w3.heap.size ≠ w.heap.size+3 by omega) 0 x0).setv (show w3.heap.size ≠ w.heap.size+3 by omega) 1 x1).setv (show w3.heap.size ≠ w.heap.size+3 by omega) 2 x2).cell 2,((((HBsy.out.below hq HBsy.out.lt).setv (show w3.heap.size+1 ≠ w.heap.size+3 by omega) 0 x0).setv (show w3.heap.size+1 ≠ w.heap.size+3 by omega) 1 x1).setv (show w3.heap.size+1 ≠ w.heap.size+3 by omega) 2 x2).cell 0,((((HBsy.out.below hq HBsy.out.lt).setv (show w3.heap.size+1 ≠ w.heap.size+3 by omega) 0 x0).setv (show w3.heap.size+1 ≠ w.heap.size+3 by omega) 1 x1).setv (show w3.heap.size+1 ≠ w.heap.size+3 by omega) 2 x2).cell 1,((((HBsy.out.below hq HBsy.out.lt).setv (show w3.heap.size+1 ≠ w.heap.size+3 by omega) 0 x0).setv (show w3.heap.size+1 ≠ w.heap.size+3 by omega) 1 x1).setv (show w3.heap.size+1 ≠ w.heap.size+3 by omega) 2 x2).cell 2⟩:(((W.setCell ⟨w.heap.size+3,0,none⟩ x0).setCell ⟨w.heap.size+3,1,none⟩ x1).setCell ⟨w.heap.size+3,2,none⟩ x2).cell? ⟨w1.heap.size,0,none⟩=some (.bool fxb)∧(((W.setCell ⟨w.heap.size+3,0,none⟩ x0).setCell ⟨w.heap.size+3,1,none⟩ x1).setCell ⟨w.heap.size+3,2,none⟩ x2).cell? ⟨w1.heap.size,1,none⟩=some (.slice fxA fxn fxc)∧(((W.setCell ⟨w.heap.size+3,0,none⟩ x0).setCell ⟨w.heap.size+3,1,none⟩ x1).setCell ⟨w.heap.size+3,2,none⟩ x2).cell? ⟨w1.heap.size,2,none⟩=some (.slice fxD fxm fxk)∧(((W.setCell ⟨w.heap.size+3,0,none⟩ x0).setCell ⟨w.heap.size+3,1,none⟩ x1).setCell ⟨w.heap.size+3,2,none⟩ x2).cell? ⟨w1.heap.size+1,0,none⟩=some (.bool fyb)∧(((W.setCell ⟨w.heap.size+3,0,none⟩ x0).setCell ⟨w.heap.size+3,1,none⟩ x1).setCell ⟨w.heap.size+3,2,none⟩ x2).cell? ⟨w1.heap.size+1,1,none⟩=some (.slice fyA fyn fyc)∧(((W.setCell ⟨w.heap.size+3,0,none⟩ x0).setCell ⟨w.heap.size+3,1,none⟩ x1).setCell ⟨w.heap.size+3,2,none⟩ x2).cell? ⟨w1.heap.size+1,2,none⟩=some (.slice fyD fym fyk)∧(((W.setCell ⟨w.heap.size+3,0,none⟩ x0).setCell ⟨w.heap.size+3,1,none⟩ x1).setCell ⟨w.heap.size+3,2,none⟩ x2).cell? ⟨w3.heap.size,0,none⟩=some (.bool sxb)∧(((W.setCell ⟨w.heap.size+3,0,none⟩ x0).setCell ⟨w.heap.size+3,1,none⟩ x1).setCell ⟨w.heap.size+3,2,none⟩ x2).cell? ⟨w3.heap.size,1,none⟩=some (.slice sxA sxn sxc)∧(((W.setCell ⟨w.heap.size+3,0,none⟩ x0).setCell ⟨w.heap.size+3,1,none⟩ x1).setCell ⟨w.heap.size+3,2,none⟩ x2).cell? ⟨w3.heap.size,2,none⟩=some (.slice sxD sxm sxk)∧(((W.setCell ⟨w.heap.size+3,0,none⟩ x0).setCell ⟨w.heap.size+3,1,none⟩ x1).setCell ⟨w.heap.size+3,2,none⟩ x2).cell? ⟨w3.heap.size+1,0,none⟩=some (.bool syb)∧(((W.setCell ⟨w.heap.size+3,0,none⟩ x0).setCell ⟨w.heap.size+3,1,none⟩ x1).setCell ⟨w.heap.size+3,2,none⟩ x2).cell? ⟨w3.heap.size+1,1,none⟩=some (.slice syA syn syc)∧(((W.setCell ⟨w.heap.size+3,0,none⟩ x0).setCell ⟨w.heap.size+3,1,none⟩ x1).setCell ⟨w.heap.size+3,2,none⟩ x2).cell? ⟨w3.heap.size+1,2,none⟩=some (.slice syD sym syk)))
 obtain ⟨yfx0,yfx1,yfx2⟩:=kfx.cells3
 obtain ⟨yfy0,yfy1,yfy2⟩:=kfy.cells3
 obtain ⟨ysx0,ysx1,ysx2⟩:=ksx.cells3
 obtain ⟨ysy0,ysy1,ysy2⟩:=ksy.cells3
 go_region_held3 (fun w'=>w'.cell? ⟨w1.heap.size,0,none⟩=some (.bool fxb)∧w'.cell? ⟨w1.heap.size,1,none⟩=some (.slice fxA fxn fxc)∧w'.cell? ⟨w1.heap.size,2,none⟩=some (.slice fxD fxm fxk)∧w'.cell? ⟨w1.heap.size+1,0,none⟩=some (.bool fyb)∧w'.cell? ⟨w1.heap.size+1,1,none⟩=some (.slice fyA fyn fyc)∧w'.cell? ⟨w1.heap.size+1,2,none⟩=some (.slice fyD fym fyk)∧w'.cell? ⟨w3.heap.size,0,none⟩=some (.bool sxb)∧w'.cell? ⟨w3.heap.size,1,none⟩=some (.slice sxA sxn sxc)∧w'.cell? ⟨w3.heap.size,2,none⟩=some (.slice sxD sxm sxk)∧w'.cell? ⟨w3.heap.size+1,0,none⟩=some (.bool syb)∧w'.cell? ⟨w3.heap.size+1,1,none⟩=some (.slice syA syn syc)∧w'.cell? ⟨w3.heap.size+1,2,none⟩=some (.slice syD sym syk))
  (first | (with_reducible exact HKT0.out _ HS3.out _ _ _) | (with_reducible exact HKS.out _ HS3.out) | (with_reducible exact HKS.out _ HS2.out) | (with_reducible exact HKS.out _ HS1.out) | (with_reducible exact HKS.out _ HS0.out))
  (first
    | (go_at_call 38;have HX:=HS2.out;refine (impl_addQ u2 u2.heap.size (Nat.le_refl _) qx qy).mono ?_;rintro e u3 ⟨z0,z1,z2,rfl,oz,hb3⟩;obtain ⟨zb,zA,zn,zc,zD,zm,zk,rfl,rfl,rfl⟩:=oz.cut;have oz:QOwn u3 u2.heap.size u3.heap.size 3 (.bool zb) (.slice zA zn zc) (.slice zD zm zk) (addQ (mulQ (subQ qZ.1 pZ.1) (subQ mZ.1 pZ.1)) (mulQ (subQ qZ.2 pZ.2) (subQ mZ.2 pZ.2))):=oz;have qz:=oz.in_ (addQ_fit _ _) (Nat.le_refl _);have qx:=qx.up hb3;have ox:=ox.below hb3 (by omega);have qy:=qy.up hb3;have oy:=oy.below hb3 (by omega);have hz3:u2.heap.size≤u3.heap.size:=hb3.size;have HS3:=hide (below_then HX hb3);clear HX;have hTT:=below_then hT4 HS3.out;have kR:=HRr.out.below HS3.out HRr.out.lt;obtain ⟨tr0,tr1,tr2,fr0,fr1,fr2⟩:=kR.facts3)
    | (go_at_call 37;have HX:=HS1.out;refine (HC2.out _ HS1.out).mono ?_;rintro e u2 ⟨y0,y1,y2,rfl,oy,hb2⟩;obtain ⟨yb,yA,yn,yc,yD,ym,yk,rfl,rfl,rfl⟩:=oy.cut;have oy:QOwn u2 u1.heap.size u2.heap.size 3 (.bool yb) (.slice yA yn yc) (.slice yD ym yk) (mulQ (subQ qZ.2 pZ.2) (subQ mZ.2 pZ.2)):=oy;have qy:=oy.in_ (mulQ_fit _ _) (Nat.le_refl _);have qx:=qx.up hb2;have ox:=ox.below hb2 (by omega);have hz2:u1.heap.size≤u2.heap.size:=hb2.size;have HS2:=hide (below_then HX hb2);clear HX)
    | (go_at_call 37;have HX:=HS0.out;refine (HC1.out _ HS0.out).mono ?_;rintro e u1 ⟨x0,x1,x2,rfl,ox,hb1⟩;obtain ⟨xb,xA,xn,xc,xD,xm,xk,rfl,rfl,rfl⟩:=ox.cut;have ox:QOwn u1 w4.heap.size u1.heap.size 3 (.bool xb) (.slice xA xn xc) (.slice xD xm xk) (mulQ (subQ qZ.1 pZ.1) (subQ mZ.1 pZ.1)):=ox;have qx:=ox.in_ (mulQ_fit _ _) (Nat.le_refl _);have hz1:w4.heap.size≤u1.heap.size:=hb1.size;have HS1:=hide (below_then HX hb1);clear HX))
 have HO:=hide (ret_q kR oz hTT (by omega) (by omega) (Nat.le_refl _) (.inl (by omega)))
 clear kR ox oy oz qx qy qz hTT hb1 hb2 hb3
 go_wp2_with fail
 refine bodyPost_ret (results_cell_row rfl _ _ (w.heap.size+3) _ #[.bool zb,.slice zA zn zc,.slice zD zm zk] (0,0) _ rfl HO.out.1 Tryz.underlying27 rfl Tryz.sizeRat) rfl ?_
 exact ⟨_,_,_,rfl,HO.out.2.1,HO.out.2.2⟩
end Go.Proofs.YtafhhemojdblpaaGreat
/-
  The program's segments: contracts (2): SquareToSegment.
-/
namespace Go.Proofs.YtafhhemojdblpaaGreat
open Go.RowKit
set_option linter.unusedVariables false
set_option maxRecDepth 100000 in
set_option maxHeartbeats 6400000 in
theorem impl_SquareToSegment (w:World) (B:Nat) (hB:B≤w.heap.size) {p0 p1 p2 p3 p4 p5:Value} {pZ:PQ} (hp:PIn w B p0 p1 p2 p3 p4 p5 pZ) {q0 q1 q2 q3 q4 q5:Value} {qZ:PQ} (hq:PIn w B q0 q1 q2 q3 q4 q5 qZ) {m0 m1 m2 m3 m4 m5:Value} {mZ:PQ} (hm:PIn w B m0 m1 m2 m3 m4 m5 mZ) :
 Calls Tryz.prog 15 #[.agg #[p0,p1,p2,p3,p4,p5],.agg #[q0,q1,q2,q3,q4,q5],.agg #[m0,m1,m2,m3,m4,m5]] w fun e w'=>QRes 3 w w' e (sqP pZ qZ mZ):=by
 have HT:=hide (show sameP qZ mZ=true → sqP pZ qZ mZ=distP pZ qZ from fun h=>if_pos h)
 have HF:=hide (show sameP qZ mZ=false → sqP pZ qZ mZ=distP pZ (nearP pZ qZ mZ) from fun h=>if_neg (by rw [h];exact Bool.false_ne_true))
 generalize sqP pZ qZ mZ=ZZ at HT HF ⊢
 obtain ⟨W0,hW0⟩:∃ W0,W0=((((w.alloc (.cells #[p0,p1,p2,p3,p4,p5] 29)).alloc (.cells #[q0,q1,q2,q3,q4,q5] 29)).alloc (.cells #[m0,m1,m2,m3,m4,m5] 29)).alloc (.cells #[.bool false,.slice none 0 0,.slice none 0 0] 27)):=⟨_,rfl⟩
 have hT0:Below w.heap.size w W0:=by rw [hW0];exact below_alloc (below_alloc (below_alloc (below_new _ _) _) _) _
 have kp:Box W0 (w.heap.size) 29 #[p0,p1,p2,p3,p4,p5]:=by rw [hW0];exact (((Box.last _ _ _ rfl).alloc _).alloc _).alloc _
 have kq:Box W0 (w.heap.size+1) 29 #[q0,q1,q2,q3,q4,q5]:=by rw [hW0];exact ((Box.last _ _ _ (alloc_size _ _).symm).alloc _).alloc _
 have km:Box W0 (w.heap.size+2) 29 #[m0,m1,m2,m3,m4,m5]:=by rw [hW0];exact (Box.last _ _ _ (by rw [alloc_size,alloc_size])).alloc _
 have kr:Box W0 (w.heap.size+3) 27 #[.bool false,.slice none 0 0,.slice none 0 0]:=by rw [hW0];exact Box.last _ _ _ (by rw [alloc_size,alloc_size,alloc_size])
 have hs0:W0.heap.size=w.heap.size+4:=by rw [hW0,alloc_size,alloc_size,alloc_size,alloc_size]
 have hp:=hp.below (hT0.mono hB)
 have hq:=hq.below (hT0.mono hB)
 have hm:=hm.below (hT0.mono hB)
 go_enter Tryz.func15,Tryz.ntmps15
 go_upto_region 1 with fail
 rw [←hW0]
 clear hW0
 obtain ⟨yq0,yq1,yq2,yq3,yq4,yq5⟩:=kq.cells6
 obtain ⟨ym0,ym1,ym2,ym3,ym4,ym5⟩:=km.cells6
 go_wp2_with fail
 refine (impl_SamePoint W0 B (by omega) hq hm).mono ?_
 rintro e w1 ⟨rfl,hb1⟩
 clear yq0 yq1 yq2 yq3 yq4 yq5 ym0 ym1 ym2 ym3 ym4 ym5
 have hs1:=hb1.size
 have hT1:=below_then hT0 hb1
 have kp:=kp.below hb1 kp.lt
 have kq:=kq.below hb1 kq.lt
 have km:=km.below hb1 km.lt
 have kr:=kr.below hb1 kr.lt
 have hp:=hp.below (hb1.mono (by omega))
 have hq:=hq.below (hb1.mono (by omega))
 have hm:=hm.below (hb1.mono (by omega))
 clear hT0
 clear hb1
 by_cases hsm:sameP qZ mZ=true
 · have hE:=HT.out hsm
   subst hE
   rw [hsm]
   clear hsm HT HF
   obtain ⟨yp0,yp1,yp2,yp3,yp4,yp5⟩:=kp.cells6
   obtain ⟨yq0,yq1,yq2,yq3,yq4,yq5⟩:=kq.cells6
   obtain ⟨yr0,yr1,yr2,zr0,zr1,zr2⟩:=kr.facts3
   go_wp2_with fail
   refine (impl_SquareDistance w1 B (by omega) hp hq).mono ?_
   rintro e w9 ⟨z0,z1,z2,rfl,oz,hb9⟩
   obtain ⟨zb,zA,zn,zc,zD,zm,zk,rfl,rfl,rfl⟩:=oz.cut
   clear yr0 yr1 yr2 zr0 zr1 zr2
   have kR:=kr.below hb9 kr.lt
   have hs9:=hb9.size
   have hTT:=below_then hT1 hb9
   obtain ⟨yr0,yr1,yr2,zr0,zr1,zr2⟩:=kR.facts3
   have HO:=hide (ret_q kR oz hTT (by omega) (by omega) (Nat.le_refl _) (.inl (by omega)))
   clear kR oz hTT hb9
   go_wp2_with fail
   refine bodyPost_ret (results_cell_row rfl _ _ (w.heap.size+3) _ #[.bool zb,.slice zA zn zc,.slice zD zm zk] (0,0) _ rfl HO.out.1 Tryz.underlying27 rfl Tryz.sizeRat) rfl ?_
   exact ⟨_,_,_,rfl,HO.out.2.1,HO.out.2.2⟩
 · have hsm:sameP qZ mZ=false:=by simpa using hsm
   have hE:=HF.out hsm
   subst hE
   rw [hsm]
   clear hsm HT HF
   go_upto_region 3 with fail
   have HC1:=hide (fun (W:World) (h:Below w1.heap.size w1 W)=>impl_InnerProduct W B (by have:=h.size;omega) (hq.below (h.mono (by omega))) (hp.below (h.mono (by omega))) (hm.below (h.mono (by omega))))
   have HC2:=hide (fun (W:World) (h:Below w1.heap.size w1 W)=>impl_SquareDistance W B (by have:=h.size;omega) (hq.below (h.mono (by omega))) (hm.below (h.mono (by omega))))
   have Ehs0:=hide hs0
   clear hs0
   have HBp:=hide kp
   have HBq:=hide kq
   have HBm:=hide km
   have HS0:Hid (Below w1.heap.size w1 w1.drew):=(Below.refl _ _).drew
   have HS0a:Hid (Below w1.heap.size w1 (w1.alloc (.cells #[.bool false,.slice none 0 0,.slice none 0 0] 27)).drew):=(below_new _ _).drew
   have HKS:=hide (fun (W:World) (hq:Below w1.heap.size w1 W)=>(⟨(HBp.out.below hq HBp.out.lt).cell 0,(HBp.out.below hq HBp.out.lt).cell 1,(HBp.out.below hq HBp.out.lt).cell 2,(HBp.out.below hq HBp.out.lt).cell 3,(HBp.out.below hq HBp.out.lt).cell 4,(HBp.out.below hq HBp.out.lt).cell 5,(HBq.out.below hq HBq.out.lt).cell 0,(HBq.out.below hq HBq.out.lt).cell 1,(HBq.out.below hq HBq.out.lt).cell 2,(HBq.out.below hq HBq.out.lt).cell 3,(HBq.out.below hq HBq.out.lt).cell 4,(HBq.out.below hq HBq.out.lt).cell 5,(HBm.out.below hq HBm.out.lt).cell 0,(HBm.out.below hq HBm.out.lt).cell 1,(HBm.out.below hq HBm.out.lt).cell 2,(HBm.out.below hq HBm.out.lt).cell 3,(HBm.out.below hq HBm.out.lt).cell 4,(HBm.out.below hq HBm.out.lt).cell 5⟩:W.cell? ⟨w.heap.size,0,none⟩=some (p0)∧W.cell? ⟨w.heap.size,1,none⟩=some (p1)∧W.cell? ⟨w.heap.size,2,none⟩=some (p2)∧W.cell? ⟨w.heap.size,3,none⟩=some (p3)∧W.cell? ⟨w.heap.size,4,none⟩=some (p4)∧W.cell? ⟨w.heap.size,5,none⟩=some (p5)∧W.cell? ⟨w.heap.size+1,0,none⟩=some (q0)∧W.cell? ⟨w.heap.size+1,1,none⟩=some (q1)∧W.cell? ⟨w.heap.size+1,2,none⟩=some (q2)∧W.cell? ⟨w.heap.size+1,3,none⟩=some (q3)∧W.cell? ⟨w.heap.size+1,4,none⟩=some (q4)∧W.cell? ⟨w.heap.size+1,5,none⟩=some (q5)∧W.cell? ⟨w.heap.size+2,0,none⟩=some (m0)∧W.cell? ⟨w.heap.size+2,1,none⟩=some (m1)∧W.cell? ⟨w.heap.size+2,2,none⟩=some (m2)∧W.cell? ⟨w.heap.size+2,3,none⟩=some (m3)∧W.cell? ⟨w.heap.size+2,4,none⟩=some (m4)∧W.cell? ⟨w.heap.size+2,5,none⟩=some (m5)))
   obtain ⟨yp0,yp1,yp2,yp3,yp4,yp5⟩:=kp.cells6
   obtain ⟨yq0,yq1,yq2,yq3,yq4,yq5⟩:=kq.cells6
   obtain ⟨ym0,ym1,ym2,ym3,ym4,ym5⟩:=km.cells6
   go_cut [7] from 12 to 52 (fun sx wx=>VarQ w1 wx sx (divQ (innP qZ pZ mZ) (distP qZ mZ)) 27 3)
   case first =>
    go_region_held3 (fun w'=>w'.cell? ⟨w.heap.size,0,none⟩=some (p0)∧w'.cell? ⟨w.heap.size,1,none⟩=some (p1)∧w'.cell? ⟨w.heap.size,2,none⟩=some (p2)∧w'.cell? ⟨w.heap.size,3,none⟩=some (p3)∧w'.cell? ⟨w.heap.size,4,none⟩=some (p4)∧w'.cell? ⟨w.heap.size,5,none⟩=some (p5)∧w'.cell? ⟨w.heap.size+1,0,none⟩=some (q0)∧w'.cell? ⟨w.heap.size+1,1,none⟩=some (q1)∧w'.cell? ⟨w.heap.size+1,2,none⟩=some (q2)∧w'.cell? ⟨w.heap.size+1,3,none⟩=some (q3)∧w'.cell? ⟨w.heap.size+1,4,none⟩=some (q4)∧w'.cell? ⟨w.heap.size+1,5,none⟩=some (q5)∧w'.cell? ⟨w.heap.size+2,0,none⟩=some (m0)∧w'.cell? ⟨w.heap.size+2,1,none⟩=some (m1)∧w'.cell? ⟨w.heap.size+2,2,none⟩=some (m2)∧w'.cell? ⟨w.heap.size+2,3,none⟩=some (m3)∧w'.cell? ⟨w.heap.size+2,4,none⟩=some (m4)∧w'.cell? ⟨w.heap.size+2,5,none⟩=some (m5))
     (first | (with_reducible exact HKS.out _ (below_set3 HS3.out HS2.out.size _ _ _)) | (with_reducible exact HKS.out _ (below_set3 HS3.out HS1.out.size _ _ _)) | (with_reducible exact HKS.out _ (below_set3 HS3.out (Nat.le_refl _) _ _ _)) | (with_reducible exact HKS.out _ HS3.out) | (with_reducible exact HKS.out _ (below_alloc HS3.out _)) | (with_reducible exact HKS.out _ HS2.out) | (with_reducible exact HKS.out _ (below_alloc HS2.out _)) | (with_reducible exact HKS.out _ HS1.out) | (with_reducible exact HKS.out _ (below_alloc HS1.out _)) | (with_reducible exact HKS.out _ HS0.out) | (with_reducible exact HKS.out _ HS0a.out))
     (first
       | (go_at_call 49;have HX:=HS2.out;(first | (with_reducible refine Calls.mono (impl_divQ _ _ (Nat.le_refl _) qx qy) ?_) | (with_reducible refine Calls.mono (impl_divQ _ _ (Nat.le_refl _) (qx.up (below_new _ _)) (qy.up (below_new _ _))) ?_));rintro e u3 ⟨z0,z1,z2,rfl,oz,hb3⟩;obtain ⟨zb,zA,zn,zc,zD,zm,zk,rfl,rfl,rfl⟩:=oz.cut;(first | (have hu3:=(show Below u2.heap.size u2 u3 from hb3)) | (have hu3:=(below_then (below_new u2 _) hb3)));have hz3:u2.heap.size≤u3.heap.size:=hu3.size;have qx:=qx.up hu3;have qy:=qy.up hu3;have HS3:=hide (below_then HX hu3);clear HX;have hy3:=hb3.size;(first | (have kz:=kz_new hb3) | (have kz:=kz.below hu3 kz.lt) | skip);(first | (obtain ⟨t0,t1,t2,f0,f1,f2⟩:=kz.facts3) | skip))
       | (go_at_call 17;have HX:=HS1.out;(first | (with_reducible refine Calls.mono (HC2.out _ HX) ?_) | (with_reducible refine Calls.mono (HC2.out _ (below_alloc HX _)) ?_));rintro e u2 ⟨y0,y1,y2,rfl,oy,hb2⟩;obtain ⟨yb,yA,yn,yc,yD,ym,yk,rfl,rfl,rfl⟩:=oy.cut;have qy:=oy.in_ (distP_fit _ _) (Nat.le_refl _);(first | (have hu2:=(show Below u1.heap.size u1 u2 from hb2)) | (have hu2:=(below_then (below_new u1 _) hb2)));have hz2:u1.heap.size≤u2.heap.size:=hu2.size;have qx:=qx.up hu2;have HS2:=hide (below_then HX hu2);clear HX;have hy2:=hb2.size;(first | (have kz:=kz_new hb2) | (have kz:=kz.below hu2 kz.lt) | skip))
       | (go_at_call 19;have HX:=HS0.out;(first | (with_reducible refine Calls.mono (HC1.out _ HS0.out) ?_) | (with_reducible refine Calls.mono (HC1.out _ HS0a.out) ?_));rintro e u1 ⟨x0,x1,x2,rfl,ox,hb1⟩;obtain ⟨xb,xA,xn,xc,xD,xm,xk,rfl,rfl,rfl⟩:=ox.cut;have qx:=ox.in_ (innP_fit _ _ _) (Nat.le_refl _);(first | (have HS1:=hide (below_then HS0.out hb1)) | (have HS1:=hide (below_then HS0a.out hb1)));have hz1:w1.heap.size≤u1.heap.size:=HS1.out.size;clear HX;have hy1:=hb1.size;(first | (have kz:=kz_drew hb1) | skip)))
    all_goals
     go_wp2_with fail
     go_meet
     case rel =>
      try simp only [drew_size,alloc_size] at hy1 hy2 hy3
      have HL:=HS3.out
      first
       | ((with_reducible refine varq_set kz HL oz ?_ (Nat.le_refl _) ?_ ?_) <;> ((try simp only [alloc_size]);omega))
       | ((with_reducible refine varq_last HL oz ?_ (Nat.le_refl _)) <;> ((try simp only [alloc_size]);omega))
   case rest =>
    have hs0:=Ehs0.out
    clear Ehs0
    obtain ⟨gf,f0,f1,f2,lof,hif,rfl,bn,on,hlof,hhif,hggf,hglf,hb2⟩:=hcut
    obtain ⟨fb,fA,fn,fc,fD,fm,fk,rfl,rfl,rfl⟩:=on.cut
    obtain ⟨w2,hw2⟩:∃ xw,xw=wc:=⟨_,rfl⟩
    subst hw2
    clear HKS HS0 HS0a HBp HBq HBm
    clear yp0 yp1 yp2 yp3 yp4 yp5 yq0 yq1 yq2 yq3 yq4 yq5 ym0 ym1 ym2 ym3 ym4 ym5
    have hs2:=hb2.size
    have hT2:=below_then hT1 hb2
    have kp:=kp.below hb2 kp.lt
    have kq:=kq.below hb2 kq.lt
    have km:=km.below hb2 km.lt
    have kr:=kr.below hb2 kr.lt
    have hp:=hp.below (hb2.mono (by omega))
    have hq:=hq.below (hb2.mono (by omega))
    have hm:=hm.below (hb2.mono (by omega))
    clear hT1
    clear hb2
    have kf:=bn
    have lf:=bn.lt
    have of:=on
    clear bn on
    clear HC1 HC2
    go_upto_region 4 with fail
    have hfq:QIn w2 w2.heap.size (.bool fb) (.slice fA fn fc) (.slice fD fm fk) (divQ (innP qZ pZ mZ) (distP qZ mZ)):=of.in_ (divQ_fit _ _) (by omega)
    have HC1:=hide (fun (W:World)=>impl_intQ W 0 (by decide))
    have HC2:=hide (fun (W:World)=>impl_intQ W 1 (by decide))
    have HC3:=hide (fun (W:World) (h:Below w2.heap.size w2 W)=>(hfq.below h).wider h.size)
    clear hfq of
    have Ehs0:=hide hs0
    clear hs0
    have HBf:=hide kf
    have HS0:Hid (Below w2.heap.size w2 w2.drew):=(Below.refl _ _).drew
    have HS0a:Hid (Below w2.heap.size w2 (w2.alloc (.cells #[.bool false,.slice none 0 0,.slice none 0 0] 27)).drew):=(below_new _ _).drew
    have HKS:=hide (fun (W:World) (hq:Below w2.heap.size w2 W)=>(⟨(HBf.out.below hq HBf.out.lt).cell 0,(HBf.out.below hq HBf.out.lt).cell 1,(HBf.out.below hq HBf.out.lt).cell 2⟩:W.cell? ⟨gf,0,none⟩=some (.bool fb)∧W.cell? ⟨gf,1,none⟩=some (.slice fA fn fc)∧W.cell? ⟨gf,2,none⟩=some (.slice fD fm fk)))
    obtain ⟨yf0,yf1,yf2⟩:=kf.cells3
    go_cut [8] from 26 to 52 (fun sx wx=>VarQ w2 wx sx (partQ (divQ (innP qZ pZ mZ) (distP qZ mZ))) 27 3)
    case first =>
     go_region_held3 (fun w'=>w'.cell? ⟨gf,0,none⟩=some (.bool fb)∧w'.cell? ⟨gf,1,none⟩=some (.slice fA fn fc)∧w'.cell? ⟨gf,2,none⟩=some (.slice fD fm fk))
      (first | (with_reducible exact HKS.out _ (below_set3 HS4.out HS3.out.size _ _ _)) | (with_reducible exact HKS.out _ (below_set3 HS4.out HS2.out.size _ _ _)) | (with_reducible exact HKS.out _ (below_set3 HS4.out HS1.out.size _ _ _)) | (with_reducible exact HKS.out _ (below_set3 HS4.out (Nat.le_refl _) _ _ _)) | (with_reducible exact HKS.out _ HS4.out) | (with_reducible exact HKS.out _ (below_alloc HS4.out _)) | (with_reducible exact HKS.out _ HS3.out) | (with_reducible exact HKS.out _ (below_alloc HS3.out _)) | (with_reducible exact HKS.out _ HS2.out) | (with_reducible exact HKS.out _ (below_alloc HS2.out _)) | (with_reducible exact HKS.out _ HS1.out) | (with_reducible exact HKS.out _ (below_alloc HS1.out _)) | (with_reducible exact HKS.out _ HS0.out) | (with_reducible exact HKS.out _ HS0a.out))
      (first
        | (go_at_call 50;have HX:=HS3.out;(first | (with_reducible refine Calls.mono (impl_maxQ _ _ (Nat.le_refl _) qx qv) ?_) | (with_reducible refine Calls.mono (impl_maxQ _ _ (Nat.le_refl _) (qx.up (below_new _ _)) (qv.up (below_new _ _))) ?_));rintro e u4 ⟨z0,z1,z2,rfl,oz,hb4⟩;obtain ⟨zb,zA,zn,zc,zD,zm,zk,rfl,rfl,rfl⟩:=oz.cut;(first | (have hu4:=(show Below u3.heap.size u3 u4 from hb4)) | (have hu4:=(below_then (below_new u3 _) hb4)));have hz4:u3.heap.size≤u4.heap.size:=hu4.size;have qx:=qx.up hu4;have qy:=qy.up hu4;have qv:=qv.up hu4;have HS4:=hide (below_then HX hu4);clear HX;have hy4:=hb4.size;(first | (have kz:=kz_new hb4) | (have kz:=kz.below hu4 kz.lt) | skip);(first | (obtain ⟨t0,t1,t2,f0,f1,f2⟩:=kz.facts3) | skip))
        | (go_at_call 31;have HX:=HS2.out;(first | (with_reducible refine Calls.mono (impl_minQ _ _ (Nat.le_refl _) (HC3.out _ HX) qy) ?_) | (with_reducible refine Calls.mono (impl_minQ _ _ (Nat.le_refl _) (HC3.out _ (below_alloc HX _)) (qy.up (below_new _ _))) ?_));rintro e u3 ⟨v0,v1,v2,rfl,ov,hb3⟩;obtain ⟨vb,vA,vn,vc,vD,vm,vk,rfl,rfl,rfl⟩:=ov.cut;have qv:=ov.in_ (minQ_fit _ _) (Nat.le_refl _);(first | (have hu3:=(show Below u2.heap.size u2 u3 from hb3)) | (have hu3:=(below_then (below_new u2 _) hb3)));have hz3:u2.heap.size≤u3.heap.size:=hu3.size;have qx:=qx.up hu3;have qy:=qy.up hu3;have HS3:=hide (below_then HX hu3);clear HX;have hy3:=hb3.size;(first | (have kz:=kz_new hb3) | (have kz:=kz.below hu3 kz.lt) | skip))
        | (go_at_call 22;have HX:=HS1.out;(first | (with_reducible refine Calls.mono (HC2.out _) ?_) | (with_reducible refine Calls.mono (HC2.out _) ?_));rintro e u2 ⟨y0,y1,y2,rfl,oy,hb2⟩;obtain ⟨yb,yA,yn,yc,yD,ym,yk,rfl,rfl,rfl⟩:=oy.cut;have qy:=oy.in_ (intQ_fit _) (Nat.le_refl _);(first | (have hu2:=(show Below u1.heap.size u1 u2 from hb2)) | (have hu2:=(below_then (below_new u1 _) hb2)));have hz2:u1.heap.size≤u2.heap.size:=hu2.size;have qx:=qx.up hu2;have HS2:=hide (below_then HX hu2);clear HX;have hy2:=hb2.size;(first | (have kz:=kz_new hb2) | (have kz:=kz.below hu2 kz.lt) | skip))
        | (go_at_call 22;have HX:=HS0.out;(first | (with_reducible refine Calls.mono (HC1.out _) ?_) | (with_reducible refine Calls.mono (HC1.out _) ?_));rintro e u1 ⟨x0,x1,x2,rfl,ox,hb1⟩;obtain ⟨xb,xA,xn,xc,xD,xm,xk,rfl,rfl,rfl⟩:=ox.cut;have qx:=ox.in_ (intQ_fit _) (Nat.le_refl _);(first | (have HS1:=hide (below_then HS0.out hb1)) | (have HS1:=hide (below_then HS0a.out hb1)));have hz1:w2.heap.size≤u1.heap.size:=HS1.out.size;clear HX;have hy1:=hb1.size;(first | (have kz:=kz_drew hb1) | skip)))
     all_goals
      go_wp2_with fail
      go_meet
      case rel =>
       try simp only [drew_size,alloc_size] at hy1 hy2 hy3 hy4
       have HL:=HS4.out
       first
        | ((with_reducible refine varq_set kz HL oz ?_ (Nat.le_refl _) ?_ ?_) <;> ((try simp only [alloc_size]);omega))
        | ((with_reducible refine varq_last HL oz ?_ (Nat.le_refl _)) <;> ((try simp only [alloc_size]);omega))
    case rest =>
     have hs0:=Ehs0.out
     clear Ehs0
     obtain ⟨gg,g0,g1,g2,log,hig,rfl,bn,on,hlog,hhig,hggg,hglg,hb3⟩:=hcut
     obtain ⟨gb,gA,gn,gc,gD,gm,gk,rfl,rfl,rfl⟩:=on.cut
     obtain ⟨w3,hw3⟩:∃ xw,xw=wc:=⟨_,rfl⟩
     subst hw3
     clear HKS HS0 HS0a HBf
     clear yf0 yf1 yf2
     have hs3:=hb3.size
     have hT3:=below_then hT2 hb3
     have kp:=kp.below hb3 kp.lt
     have kq:=kq.below hb3 kq.lt
     have km:=km.below hb3 km.lt
     have kr:=kr.below hb3 kr.lt
     have kf:=kf.below hb3 kf.lt
     have hp:=hp.below (hb3.mono (by omega))
     have hq:=hq.below (hb3.mono (by omega))
     have hm:=hm.below (hb3.mono (by omega))
     clear hT2
     clear hb3
     have kg:=bn
     have lg:=bn.lt
     have og:=on
     clear bn on
     clear HC1 HC2 HC3
     clear kf
     obtain ⟨yq0,yq1,yq2,yq3,yq4,yq5⟩:=kq.cells6
     obtain ⟨ym0,ym1,ym2,ym3,ym4,ym5⟩:=km.cells6
     go_wp2_with fail
     refine (impl_differences w3 B (by omega) hq hm).mono ?_
     rintro e w4 ⟨fx0,fx1,fx2,fy0,fy1,fy2,lfx,hfxi,lfy,hfyi,rfl,ofx,ofy,glfx,glfy,ghfx,ghfy,hb4⟩
     clear yq0 yq1 yq2 yq3 yq4 yq5 ym0 ym1 ym2 ym3 ym4 ym5
     obtain ⟨fxb,fxA,fxn,fxc,fxD,fxm,fxk,rfl,rfl,rfl⟩:=ofx.cut
     obtain ⟨fyb,fyA,fyn,fyc,fyD,fym,fyk,rfl,rfl,rfl⟩:=ofy.cut
     have hs4:=hb4.size
     have hT4:=below_then hT3 hb4
     have kp:=kp.below hb4 kp.lt
     have kq:=kq.below hb4 kq.lt
     have km:=km.below hb4 km.lt
     have kr:=kr.below hb4 kr.lt
     have kg:=kg.below hb4 kg.lt
     have hp:=hp.below (hb4.mono (by omega))
     have hq:=hq.below (hb4.mono (by omega))
     have hm:=hm.below (hb4.mono (by omega))
     have og:=og.below hb4 (by omega)
     clear hT3
     clear hb4
     obtain ⟨w5,hw5⟩:∃ xw,xw=((w4.alloc (.cells #[.bool fxb,.slice fxA fxn fxc,.slice fxD fxm fxk] 27)).alloc (.cells #[.bool fyb,.slice fyA fyn fyc,.slice fyD fym fyk] 27)):=⟨_,rfl⟩
     have hb5:Below w4.heap.size w4 w5:=by rw [hw5];exact below_alloc (below_new _ _) _
     have hq5:w5.heap.size=w4.heap.size+2:=by rw [hw5,alloc_size,alloc_size]
     have kfx:Box w5 (w4.heap.size) 27 #[.bool fxb,.slice fxA fxn fxc,.slice fxD fxm fxk]:=by rw [hw5];exact (Box.last _ _ _ (by omega)).alloc _
     have kfy:Box w5 (w4.heap.size+1) 27 #[.bool fyb,.slice fyA fyn fyc,.slice fyD fym fyk]:=by rw [hw5];exact Box.last _ _ _ (by rw [alloc_size];try omega)
     have hs5:=hb5.size
     have hT5:=below_then hT4 hb5
     have kp:=kp.below hb5 kp.lt
     have kq:=kq.below hb5 kq.lt
     have km:=km.below hb5 km.lt
     have kr:=kr.below hb5 kr.lt
     have kg:=kg.below hb5 kg.lt
     have hp:=hp.below (hb5.mono (by omega))
     have hq:=hq.below (hb5.mono (by omega))
     have hm:=hm.below (hb5.mono (by omega))
     have og:=og.below hb5 (by omega)
     have ofx:=ofx.below hb5 (by omega)
     have ofy:=ofy.below hb5 (by omega)
     clear hT4
     go_upto_region 6 with fail
     rw [←hw5]
     clear hw5 hb5
     have hg:QIn w5 w5.heap.size (.bool gb) (.slice gA gn gc) (.slice gD gm gk) (partQ (divQ (innP qZ pZ mZ) (distP qZ mZ))):=og.in_ (partQ_fit _) (by omega)
     clear og
     have hfx:QIn w5 w5.heap.size (.bool fxb) (.slice fxA fxn fxc) (.slice fxD fxm fxk) _:=ofx.in_ (subQ_fit _ _) (by omega)
     clear ofx
     have hfy:QIn w5 w5.heap.size (.bool fyb) (.slice fyA fyn fyc) (.slice fyD fym fyk) _:=ofy.in_ (subQ_fit _ _) (by omega)
     clear ofy
     have HC1:=hide (fun (W:World) (h:Below w5.heap.size w5 W)=>impl_mulQ W w5.heap.size h.size (hg.below h) (hfx.below h))
     have HC3:=hide (fun (W:World) (h:Below w5.heap.size w5 W)=>impl_mulQ W w5.heap.size h.size (hg.below h) (hfy.below h))
     have HC2:=hide (fun (W:World) (h:Below w5.heap.size w5 W)=>(hq.1.wider (show B≤w5.heap.size by omega)).below h |>.wider h.size)
     have HC4:=hide (fun (W:World) (h:Below w5.heap.size w5 W)=>(hq.2.wider (show B≤w5.heap.size by omega)).below h |>.wider h.size)
     clear hg hfx hfy
     have Ehs0:=hide hs0
     clear hs0
     have Ehq5:=hide hq5
     clear hq5
     have HBq:=hide kq
     have HBg:=hide kg
     have HBfx:=hide kfx
     have HBfy:=hide kfy
     have HS0:Hid (Below w5.heap.size w5 w5.drew):=(Below.refl _ _).drew
     have HS0a:Hid (Below w5.heap.size w5 (w5.alloc (.cells #[.bool false,.slice none 0 0,.slice none 0 0,.bool false,.slice none 0 0,.slice none 0 0] 29)).drew):=(below_new _ _).drew
     have HKS:=hide (fun (W:World) (hq:Below w5.heap.size w5 W)=>(⟨(HBq.out.below hq HBq.out.lt).cell 0,(HBq.out.below hq HBq.out.lt).cell 1,(HBq.out.below hq HBq.out.lt).cell 2,(HBq.out.below hq HBq.out.lt).cell 3,(HBq.out.below hq HBq.out.lt).cell 4,(HBq.out.below hq HBq.out.lt).cell 5,(HBg.out.below hq HBg.out.lt).cell 0,(HBg.out.below hq HBg.out.lt).cell 1,(HBg.out.below hq HBg.out.lt).cell 2,(HBfx.out.below hq HBfx.out.lt).cell 0,(HBfx.out.below hq HBfx.out.lt).cell 1,(HBfx.out.below hq HBfx.out.lt).cell 2,(HBfy.out.below hq HBfy.out.lt).cell 0,(HBfy.out.below hq HBfy.out.lt).cell 1,(HBfy.out.below hq HBfy.out.lt).cell 2⟩:W.cell? ⟨w.heap.size+1,0,none⟩=some (q0)∧W.cell? ⟨w.heap.size+1,1,none⟩=some (q1)∧W.cell? ⟨w.heap.size+1,2,none⟩=some (q2)∧W.cell? ⟨w.heap.size+1,3,none⟩=some (q3)∧W.cell? ⟨w.heap.size+1,4,none⟩=some (q4)∧W.cell? ⟨w.heap.size+1,5,none⟩=some (q5)∧W.cell? ⟨gg,0,none⟩=some (.bool gb)∧W.cell? ⟨gg,1,none⟩=some (.slice gA gn gc)∧W.cell? ⟨gg,2,none⟩=some (.slice gD gm gk)∧W.cell? ⟨w4.heap.size,0,none⟩=some (.bool fxb)∧W.cell? ⟨w4.heap.size,1,none⟩=some (.slice fxA fxn fxc)∧W.cell? ⟨w4.heap.size,2,none⟩=some (.slice fxD fxm fxk)∧W.cell? ⟨w4.heap.size+1,0,none⟩=some (.bool fyb)∧W.cell? ⟨w4.heap.size+1,1,none⟩=some (.slice fyA fyn fyc)∧W.cell? ⟨w4.heap.size+1,2,none⟩=some (.slice fyD fym fyk)))
     obtain ⟨yq0,yq1,yq2,yq3,yq4,yq5⟩:=kq.cells6
     obtain ⟨yg0,yg1,yg2⟩:=kg.cells3
     obtain ⟨yfx0,yfx1,yfx2⟩:=kfx.cells3
     obtain ⟨yfy0,yfy1,yfy2⟩:=kfy.cells3
     go_cut [11] from 37 to 52 (fun sx wx=>VarJ w5 wx sx ((addQ qZ.1 (mulQ (partQ (divQ (innP qZ pZ mZ) (distP qZ mZ))) (subQ mZ.1 qZ.1)),addQ qZ.2 (mulQ (partQ (divQ (innP qZ pZ mZ) (distP qZ mZ))) (subQ mZ.2 qZ.2)))) 29 3)
     case first =>
      go_region_held3 (fun w'=>w'.cell? ⟨w.heap.size+1,0,none⟩=some (q0)∧w'.cell? ⟨w.heap.size+1,1,none⟩=some (q1)∧w'.cell? ⟨w.heap.size+1,2,none⟩=some (q2)∧w'.cell? ⟨w.heap.size+1,3,none⟩=some (q3)∧w'.cell? ⟨w.heap.size+1,4,none⟩=some (q4)∧w'.cell? ⟨w.heap.size+1,5,none⟩=some (q5)∧w'.cell? ⟨gg,0,none⟩=some (.bool gb)∧w'.cell? ⟨gg,1,none⟩=some (.slice gA gn gc)∧w'.cell? ⟨gg,2,none⟩=some (.slice gD gm gk)∧w'.cell? ⟨w4.heap.size,0,none⟩=some (.bool fxb)∧w'.cell? ⟨w4.heap.size,1,none⟩=some (.slice fxA fxn fxc)∧w'.cell? ⟨w4.heap.size,2,none⟩=some (.slice fxD fxm fxk)∧w'.cell? ⟨w4.heap.size+1,0,none⟩=some (.bool fyb)∧w'.cell? ⟨w4.heap.size+1,1,none⟩=some (.slice fyA fyn fyc)∧w'.cell? ⟨w4.heap.size+1,2,none⟩=some (.slice fyD fym fyk))
       (first | (with_reducible exact HKS.out _ (below_set6 HS4.out HS3.out.size _ _ _ _ _ _)) | (with_reducible exact HKS.out _ (below_set6 HS4.out HS2.out.size _ _ _ _ _ _)) | (with_reducible exact HKS.out _ (below_set6 HS4.out HS1.out.size _ _ _ _ _ _)) | (with_reducible exact HKS.out _ (below_set6 HS4.out (Nat.le_refl _) _ _ _ _ _ _)) | (with_reducible exact HKS.out _ HS4.out) | (with_reducible exact HKS.out _ (below_alloc HS4.out _)) | (with_reducible exact HKS.out _ HS3.out) | (with_reducible exact HKS.out _ (below_alloc HS3.out _)) | (with_reducible exact HKS.out _ HS2.out) | (with_reducible exact HKS.out _ (below_alloc HS2.out _)) | (with_reducible exact HKS.out _ HS1.out) | (with_reducible exact HKS.out _ (below_alloc HS1.out _)) | (with_reducible exact HKS.out _ HS0.out) | (with_reducible exact HKS.out _ HS0a.out))
       (first
         | (go_at_call 38;have HX:=HS3.out;(first | (with_reducible refine Calls.mono (impl_addQ _ _ (Nat.le_refl _) (HC4.out _ HX) qy) ?_) | (with_reducible refine Calls.mono (impl_addQ _ _ (Nat.le_refl _) (HC4.out _ (below_alloc HX _)) (qy.up (below_new _ _))) ?_));rintro e u4 ⟨z0,z1,z2,rfl,oz,hb4⟩;obtain ⟨zb,zA,zn,zc,zD,zm,zk,rfl,rfl,rfl⟩:=oz.cut;(first | (have hu4:=(show Below u3.heap.size u3 u4 from hb4)) | (have hu4:=(below_then (below_new u3 _) hb4)));have hz4:u3.heap.size≤u4.heap.size:=hu4.size;have qx:=qx.up hu4;have qv:=qv.up hu4;have ov:=ov.below hu4 (by omega);have qy:=qy.up hu4;have HS4:=hide (below_then HX hu4);clear HX;have hy4:=hb4.size;(first | (have kz:=kz_new hb4) | (have kz:=kz.below hu4 kz.lt) | skip);(first | (obtain ⟨⟨t0,t1,t2,t3,t4,t5⟩,f0,f1,f2,f3,f4,f5⟩:=kz.facts6) | skip))
         | (go_at_call 37;have HX:=HS2.out;(first | (with_reducible refine Calls.mono (HC3.out _ HX) ?_) | (with_reducible refine Calls.mono (HC3.out _ (below_alloc HX _)) ?_));rintro e u3 ⟨y0,y1,y2,rfl,oy,hb3⟩;obtain ⟨yb,yA,yn,yc,yD,ym,yk,rfl,rfl,rfl⟩:=oy.cut;have qy:=oy.in_ (mulQ_fit _ _) (Nat.le_refl _);(first | (have hu3:=(show Below u2.heap.size u2 u3 from hb3)) | (have hu3:=(below_then (below_new u2 _) hb3)));have hz3:u2.heap.size≤u3.heap.size:=hu3.size;have qx:=qx.up hu3;have qv:=qv.up hu3;have ov:=ov.below hu3 (by omega);have HS3:=hide (below_then HX hu3);clear HX;have hy3:=hb3.size;(first | (have kz:=kz_new hb3) | (have kz:=kz.below hu3 kz.lt) | skip))
         | (go_at_call 38;have HX:=HS1.out;(first | (with_reducible refine Calls.mono (impl_addQ _ _ (Nat.le_refl _) (HC2.out _ HX) qx) ?_) | (with_reducible refine Calls.mono (impl_addQ _ _ (Nat.le_refl _) (HC2.out _ (below_alloc HX _)) (qx.up (below_new _ _))) ?_));rintro e u2 ⟨v0,v1,v2,rfl,ov,hb2⟩;obtain ⟨vb,vA,vn,vc,vD,vm,vk,rfl,rfl,rfl⟩:=ov.cut;have qv:=ov.in_ (addQ_fit _ _) (Nat.le_refl _);(first | (have hu2:=(show Below u1.heap.size u1 u2 from hb2)) | (have hu2:=(below_then (below_new u1 _) hb2)));have hz2:u1.heap.size≤u2.heap.size:=hu2.size;have qx:=qx.up hu2;have HS2:=hide (below_then HX hu2);clear HX;have hy2:=hb2.size;(first | (have kz:=kz_new hb2) | (have kz:=kz.below hu2 kz.lt) | skip))
         | (go_at_call 37;have HX:=HS0.out;(first | (with_reducible refine Calls.mono (HC1.out _ HS0.out) ?_) | (with_reducible refine Calls.mono (HC1.out _ HS0a.out) ?_));rintro e u1 ⟨x0,x1,x2,rfl,ox,hb1⟩;obtain ⟨xb,xA,xn,xc,xD,xm,xk,rfl,rfl,rfl⟩:=ox.cut;have qx:=ox.in_ (mulQ_fit _ _) (Nat.le_refl _);(first | (have HS1:=hide (below_then HS0.out hb1)) | (have HS1:=hide (below_then HS0a.out hb1)));have hz1:w5.heap.size≤u1.heap.size:=HS1.out.size;clear HX;have hy1:=hb1.size;(first | (have kz:=kz_drew hb1) | skip)))
      all_goals
       go_wp2_with fail
       go_meet
       case rel =>
        try simp only [drew_size,alloc_size] at hy1 hy2 hy3 hy4
        have HL:=HS4.out
        first
         | ((with_reducible refine varj_set kz HL ov oz (qv) (oz.in_ (addQ_fit _ _) (Nat.le_refl _)) ?_ ?_ ?_) <;> ((try simp only [alloc_size]);omega))
         | (with_reducible exact varj_last HL (qv) (oz.in_ (addQ_fit _ _) (Nat.le_refl _)))
     case rest =>
      have hs0:=Ehs0.out
      clear Ehs0
      have hq5:=Ehq5.out
      clear Ehq5
      obtain ⟨gj,j0,j1,j2,j3,j4,j5,rfl,bn,on,hggj,hb6⟩:=hcut
      obtain ⟨jb,jA,jn,jc,jD,jm,jk,jyb,jyA,jyn,jyc,jyD,jym,jyk,rfl,rfl,rfl,rfl,rfl,rfl⟩:=on.cut
      obtain ⟨w6,hw6⟩:∃ xw,xw=wc:=⟨_,rfl⟩
      subst hw6
      clear HKS HS0 HS0a HBq HBg HBfx HBfy
      clear yq0 yq1 yq2 yq3 yq4 yq5 yg0 yg1 yg2 yfx0 yfx1 yfx2 yfy0 yfy1 yfy2
      have hs6:=hb6.size
      have hT6:=below_then hT5 hb6
      have kp:=kp.below hb6 kp.lt
      have kq:=kq.below hb6 kq.lt
      have km:=km.below hb6 km.lt
      have kr:=kr.below hb6 kr.lt
      have kg:=kg.below hb6 kg.lt
      have kfx:=kfx.below hb6 kfx.lt
      have kfy:=kfy.below hb6 kfy.lt
      have hp:=hp.below (hb6.mono (by omega))
      have hq:=hq.below (hb6.mono (by omega))
      have hm:=hm.below (hb6.mono (by omega))
      clear hT5
      clear hb6
      have kj:=bn
      have lj:=bn.lt
      have oj:=on
      clear bn on
      clear HC1 HC2 HC3 HC4
      obtain ⟨yp0,yp1,yp2,yp3,yp4,yp5⟩:=kp.cells6
      obtain ⟨yj0,yj1,yj2,yj3,yj4,yj5⟩:=kj.cells6
      obtain ⟨yr0,yr1,yr2,zr0,zr1,zr2⟩:=kr.facts3
      go_wp2_with fail
      refine (impl_SquareDistance w6 w6.heap.size (Nat.le_refl _) (hp.wider (by omega)) oj).mono ?_
      rintro e w9 ⟨z0,z1,z2,rfl,oz,hb9⟩
      obtain ⟨zb,zA,zn,zc,zD,zm,zk,rfl,rfl,rfl⟩:=oz.cut
      clear yr0 yr1 yr2 zr0 zr1 zr2
      have kR:=kr.below hb9 kr.lt
      have hs9:=hb9.size
      have hTT:=below_then hT6 hb9
      obtain ⟨yr0,yr1,yr2,zr0,zr1,zr2⟩:=kR.facts3
      have HO:=hide (ret_q kR oz hTT (by omega) (by omega) (Nat.le_refl _) (.inl (by omega)))
      clear kR oz hTT hb9
      go_wp2_with fail
      refine bodyPost_ret (results_cell_row rfl _ _ (w.heap.size+3) _ #[.bool zb,.slice zA zn zc,.slice zD zm zk] (0,0) _ rfl HO.out.1 Tryz.underlying27 rfl Tryz.sizeRat) rfl ?_
      exact ⟨_,_,_,rfl,HO.out.2.1,HO.out.2.2⟩
end Go.Proofs.YtafhhemojdblpaaGreat
