/-
  The law FnDistances: its walk.
-/
import Derived.Test.YtafhhemojdblpaaGreatDZ
import Derived.Test.YtafhhemojdblpaaGreatDW
import Derived.Deep.RegionHeld3
import Derived.Deep.RegionLaw
import Derived.Deep.CutRange
import Derived.Sort.AtCall
namespace Go.Proofs.YtafhhemojdblpaaGreat
open Go.RowKit
set_option linter.unusedVariables false
set_option maxRecDepth 100000 in
set_option maxHeartbeats 8000000 in
theorem FnDistances_walk (w:World) (a0:Option Addr) (len0 cap0:Nat) (z0:List Int) (h0:IsRow .u8 w a0 len0 cap0 z0) :
 Calls Tryz.prog 3 #[.slice a0 len0 cap0] w fun e w'=>e=.returned (.bool true)∧Below w.heap.size w w':=by
 obtain ⟨hby,hlm⟩:=h0.bytes
 obtain ⟨F,hL,hM⟩:=h0.bytesF
 clear h0 hM
 generalize z0.take len0=bs at F hL
 subst hL
 unfold maxLen at hlm
 by_cases h:1048576 < bs.length
 · clear hby F
   go_enter Tryz.func3,Tryz.ntmps3
   go_wp2_with fail
   go_ret
   exact ⟨rfl,Below.refl _ _⟩
 have hl:bs.length≤1048576:=by omega
 clear h hlm
 have hT0:Below w.heap.size w w:=Below.refl _ _
 have HBY:=hide hby
 have HF:=hide F
 clear hby F
 go_enter Tryz.func3,Tryz.ntmps3
 go_wp2_with fail
 refine (MakeSmall0 bs.length cap0 w.heap.size a0 w (by omega) (HBY.out.below hT0) hT0.size).mono ?_
 rintro e w1 ⟨⟨P,pX,pD,pY,p0,p1,p2,p3,p4,p5,rfl,op,hpS⟩,hb1⟩
 have HpS:Hid (DrawP P):=hide ⟨pX,pD,pY,hpS⟩
 clear hpS
 obtain ⟨pb,pA,pn,pc,pD,pm,pk,pyb,pyA,pyn,pyc,pyD,pym,pyk,rfl,rfl,rfl,rfl,rfl,rfl⟩:=op.cut
 have hs1:=hb1.size
 have hT1:=below_then hT0 hb1
 clear hT0
 clear hb1
 obtain ⟨w2,hw2⟩:∃ xw,xw=(w1.alloc (.cells #[.bool pb,.slice pA pn pc,.slice pD pm pk,.bool pyb,.slice pyA pyn pyc,.slice pyD pym pyk] 29)):=⟨_,rfl⟩
 have hb2:Below w1.heap.size w1 w2:=by rw [hw2];exact below_new _ _
 have hq2:w2.heap.size=w1.heap.size+1:=by rw [hw2,alloc_size]
 have kp:Box w2 (w1.heap.size) 29 #[.bool pb,.slice pA pn pc,.slice pD pm pk,.bool pyb,.slice pyA pyn pyc,.slice pyD pym pyk]:=by rw [hw2];exact Box.last _ _ _ (by omega)
 have hs2:=hb2.size
 have hT2:=below_then hT1 hb2
 have op:=op.below hb2 (by omega)
 clear hT1
 go_upto_region 4 with fail
 rw [←hw2]
 clear hw2 hb2
 go_wp2_with fail
 refine (MakeSmall1 bs.length cap0 w.heap.size a0 w2 (by omega) (HBY.out.below hT2) hT2.size).mono ?_
 rintro e w3 ⟨⟨Q,qX,qD,qY,q0,q1,q2,q3,q4,q5,rfl,oq,hqS⟩,hb3⟩
 have HqS:Hid (DrawP Q):=hide ⟨qX,qD,qY,hqS⟩
 clear hqS
 obtain ⟨qb,qA,qn,qc,qD,qm,qk,qyb,qyA,qyn,qyc,qyD,qym,qyk,rfl,rfl,rfl,rfl,rfl,rfl⟩:=oq.cut
 have hs3:=hb3.size
 have hT3:=below_then hT2 hb3
 have kp:=kp.below hb3 kp.lt
 have op:=op.below hb3 (by omega)
 clear hT2
 clear hb3
 obtain ⟨w4,hw4⟩:∃ xw,xw=(w3.alloc (.cells #[.bool qb,.slice qA qn qc,.slice qD qm qk,.bool qyb,.slice qyA qyn qyc,.slice qyD qym qyk] 29)):=⟨_,rfl⟩
 have hb4:Below w3.heap.size w3 w4:=by rw [hw4];exact below_new _ _
 have hq4:w4.heap.size=w3.heap.size+1:=by rw [hw4,alloc_size]
 have kq:Box w4 (w3.heap.size) 29 #[.bool qb,.slice qA qn qc,.slice qD qm qk,.bool qyb,.slice qyA qyn qyc,.slice qyD qym qyk]:=by rw [hw4];exact Box.last _ _ _ (by omega)
 have hs4:=hb4.size
 have hT4:=below_then hT3 hb4
 have kp:=kp.below hb4 kp.lt
 have op:=op.below hb4 (by omega)
 have oq:=oq.below hb4 (by omega)
 clear hT3
 go_upto_region 5 with fail
 rw [←hw4]
 clear hw4 hb4
 go_wp2_with fail
 refine (MakePolygon_f cap0 w.heap.size a0 bs 4 (by omega) w4 (by omega) (HF.out.below hT4) hT4.size).mono ?_
 rintro e w5 ⟨lv,rfl,oL,hb5⟩
 obtain ⟨d1,d2,d3⟩:=drawF_small bs 8 (skipF bs (newS bs) (7 * 4))
 generalize drawF bs 8 (skipF bs (newS bs) (7 * 4))=LL at *
 have h3L:3≤LL.length:=d3.1
 obtain ⟨gL,Lc,rfl,hnL⟩:∃ g c,lv=.slice (some ⟨g,0,none⟩) LL.length c∧LL.length≤c:=by
  rcases oL.1.2 with ⟨_,hz⟩ | ⟨g,c,cur,hv,_,_,hnc,_⟩
  · exfalso;omega
  · exact ⟨g,c,hv,hnc⟩
 have hL:=oL.rdV (show LL.length≤1048576 by omega) (fun v hv=>(d1 v hv).wf)
 have HPL:Hid (polyP LL):=d3
 have hv0:smallV (atV LL 0):=d1 _ (at_mem (by omega))
 have HDA:=hide (dists_all HpS.out HqS.out d3 d1 hv0)
 have HW0:=hide hv0.wf
 have hgL:=rd_block hL (by omega)
 clear oL d1 d2 d3 hv0
 have hs5:=hb5.size
 have hT5:=below_then hT4 hb5
 have kp:=kp.below hb5 kp.lt
 have kq:=kq.below hb5 kq.lt
 have op:=op.below hb5 (by omega)
 have oq:=oq.below hb5 (by omega)
 clear hT4
 clear hb5
 obtain ⟨M,d,e,g,s,ds,by_,bk,sd,se,c1,c2,c3,⟨e1,e2,e3,e4,e5,e6,e7⟩,⟨e8,e9,e10,e11,e12,e13,e14⟩,⟨i1,i2,i3⟩,⟨i4,i5⟩,⟨i6,i7⟩,⟨v1,v2,v3,v4,v5⟩,fM,oM,sM⟩:=HDA.out
 clear HDA
 have E1:=hide e1
 have E2:=hide e2
 have E3:=hide e3
 have E4:=hide e4
 have E5:=hide e5
 have E6:=hide e6
 have E7:=hide e7
 have E8:=hide e8
 have E9:=hide e9
 have E10:=hide e10
 have E11:=hide e11
 have E12:=hide e12
 have E13:=hide e13
 have E14:=hide e14
 have I1:=hide i1
 have I2:=hide i2
 have I3:=hide i3
 have I4:=hide i4
 have I5:=hide i5
 have I6:=hide i6
 have I7:=hide i7
 have V1:=hide v1
 have V2:=hide v2
 have V3:=hide v3
 have V4:=hide v4
 have V5:=hide v5
 have fP:=HpS.out.fit
 have fQ:=HqS.out.fit
 have OM:=hide oM
 have SM:=hide sM
 have fd:QFit d:=ratQ_fit v1
 have fe:QFit e:=ratQ_fit v2
 have fg:QFit g:=ratQ_fit v3
 have fs:QFit s:=ratQ_fit v4
 have fds:QFit ds:=ratQ_fit v5
 clear i1 i2 i3 i4 i5 i6 i7 v1 v2 v3 v4 v5 oM sM e1 e2 e3 e4 e5 e6 e7 e8 e9 e10 e11 e12 e13 e14
 have hRL:=HPL.out.1
 have HQp:=hide (fun (W:World) (h:Below w5.heap.size w5 W)=>((op.in_ fP (show _≤w5.heap.size by omega)).below h).wider h.size)
 have HQq:=hide (fun (W:World) (h:Below w5.heap.size w5 W)=>((oq.in_ fQ (show _≤w5.heap.size by omega)).below h).wider h.size)
 have HR:=hide (fun (W:World) (h:Below w5.heap.size w5 W)=>(hL.below (h.mono (by omega))).wider (show _≤W.heap.size by have:=h.size;omega))
 have yc0:=(rd_cells hL 0 (by omega))
 simp only [Nat.zero_mul,Nat.zero_add] at yc0
 have HYC:=hide (fun (W:World) (h:Below w5.heap.size w5 W)=>(⟨(h.cell (p:=⟨gL,0,none⟩) (show gL < w5.heap.size by omega)).trans yc0.1,(h.cell (p:=⟨gL,1,none⟩) (show gL < w5.heap.size by omega)).trans yc0.2⟩:W.cell? ⟨gL,0,none⟩=some (.int .i64 (atV LL 0).1)∧W.cell? ⟨gL,1,none⟩=some (.int .i64 (atV LL 0).2)))
 clear yc0 hL op oq
 have HSB:=hide (fun (W:World) (h:Below w5.heap.size w5 W)=>impl_SquareBetween W W.heap.size (Nat.le_refl _) gL LL.length Lc LL (HR.out _ h) HPL.out hnL (HQp.out _ h) (HQq.out _ h) HpS.out.small HqS.out.small)
 rw [E2.out] at HSB
 have HMI:=hide (fun (W:World) (h:Below w5.heap.size w5 W)=>impl_MiddleOf W W.heap.size (Nat.le_refl _) (HQp.out _ h) (HQq.out _ h))
 rw [E1.out] at HMI
 have HSP:=hide (fun (W:World) (h:Below w5.heap.size w5 W)=>impl_SquareToPolygon W W.heap.size (Nat.le_refl _) (some ⟨gL,0,none⟩) LL.length Lc LL (HR.out _ h) HPL.out (HQp.out _ h) HpS.out.small)
 rw [E4.out] at HSP
 have HSM:=hide (fun (W:World) (h:Below w5.heap.size w5 W)=>impl_SegmentMeets W W.heap.size (Nat.le_refl _) (some ⟨gL,0,none⟩) LL.length Lc LL (HR.out _ h) HPL.out (HQp.out _ h) (HQq.out _ h) HpS.out.small HqS.out.ok)
 rw [E8.out] at HSM
 have HDI:=hide (fun (W:World) (h:Below w5.heap.size w5 W)=>impl_SquareDistance W W.heap.size (Nat.le_refl _) (HQp.out _ h) (HQq.out _ h))
 rw [E6.out] at HDI
 have HIN:=hide (fun (W:World) (h:Below w5.heap.size w5 W)=>impl_InnerProduct W W.heap.size (Nat.le_refl _) (HQp.out _ h) (HQq.out _ h) (HQq.out _ h))
 rw [E7.out] at HIN
 have HEM:=hide (fun (W:World) (h:Below w5.heap.size w5 W) {m0 m1 m2 m3 m4 m5:Value} (hm:PIn W W.heap.size m0 m1 m2 m3 m4 m5 M)=>impl_SquareToPolygon W W.heap.size (Nat.le_refl _) (some ⟨gL,0,none⟩) LL.length Lc LL (HR.out _ h) HPL.out hm SM.out)
 rw [E3.out] at HEM
 have HCM:=hide (fun (W:World) (h:Below w5.heap.size w5 W) {m0 m1 m2 m3 m4 m5:Value} (hm:PIn W W.heap.size m0 m1 m2 m3 m4 m5 M)=>contains_small W W.heap.size (Nat.le_refl _) (some ⟨gL,0,none⟩) LL.length Lc LL (HR.out _ h) hm SM.out)
 rw [E9.out] at HCM
 have HPO:=hide (fun (W:World)=>impl_PointOf W (atV LL 0).1 (atV LL 0).2 HW0.out.1 HW0.out.2)
 have HSS:=hide (fun (W:World) (h:Below w5.heap.size w5 W) {m0 m1 m2 m3 m4 m5:Value} (hm:PIn W W.heap.size m0 m1 m2 m3 m4 m5 (vecP (atV LL 0).1 (atV LL 0).2))=>impl_SquareToSegment W W.heap.size (Nat.le_refl _) (HQp.out _ h) (HQq.out _ h) hm)
 rw [E5.out] at HSS
 have fV:PFit (vecP (atV LL 0).1 (atV LL 0).2):=vecP_fit _ _
 generalize (atV LL 0).1=b1 at *
 generalize (atV LL 0).2=b2 at *
 generalize vecP b1 b2=VP at *
 clear HQp HQq HR E1 E2 E3 E4 E5 E6 E7 E8 E9 OM SM HpS HqS HPL HW0 HBY HF fP fQ
 have hbZ:=hide (Below.refl w5.heap.size w5)
 have hbn0:=hbZ.out
 obtain ⟨yp0,yp1,yp2,yp3,yp4,yp5⟩:=kp.cells6
 obtain ⟨yq0,yq1,yq2,yq3,yq4,yq5⟩:=kq.cells6
 go_wp2_with fail
 refine (HSB.out _ hbn0).mono ?_
 rintro e w6 ⟨d0,d1,d2,rfl,od,hb6⟩
 obtain ⟨db,dA,dn,dc,dD,dm,dk,rfl,rfl,rfl⟩:=od.cut
 have hbn1:=below_then hbn0 hb6
 clear hbn0 HSB
 clear yp0 yp1 yp2 yp3 yp4 yp5 yq0 yq1 yq2 yq3 yq4 yq5
 have hs6:=hb6.size
 have hT6:=below_then hT5 hb6
 have kp:=kp.below hb6 kp.lt
 have kq:=kq.below hb6 kq.lt
 clear hT5
 clear hb6
 obtain ⟨w7,hw7⟩:∃ xw,xw=(w6.alloc (.cells #[.bool db,.slice dA dn dc,.slice dD dm dk] 27)):=⟨_,rfl⟩
 have hb7:Below w6.heap.size w6 w7:=by rw [hw7];exact below_new _ _
 have hq7:w7.heap.size=w6.heap.size+1:=by rw [hw7,alloc_size]
 have kd:Box w7 (w6.heap.size) 27 #[.bool db,.slice dA dn dc,.slice dD dm dk]:=by rw [hw7];exact Box.last _ _ _ (by omega)
 have hs7:=hb7.size
 have hT7:=below_then hT6 hb7
 have kp:=kp.below hb7 kp.lt
 have kq:=kq.below hb7 kq.lt
 have od:=od.below hb7 (by omega)
 clear hT6
 go_upto_region 7 with fail
 rw [←hw7]
 have hbY7:=hb7
 clear hw7 hb7
 have hbn2:=below_then hbn1 hbY7
 clear hbn1
 obtain ⟨yp0,yp1,yp2,yp3,yp4,yp5⟩:=kp.cells6
 obtain ⟨yq0,yq1,yq2,yq3,yq4,yq5⟩:=kq.cells6
 go_wp2_with fail
 refine (HMI.out _ hbn2).mono ?_
 rintro e w8 ⟨m0,m1,m2,m3,m4,m5,rfl,om,hb8⟩
 obtain ⟨mb,mA,mn,mc,mD,mm,mk,myb,myA,myn,myc,myD,mym,myk,rfl,rfl,rfl,rfl,rfl,rfl⟩:=om.cut
 have hbn3:=below_then hbn2 hb8
 clear hbn2
 clear yp0 yp1 yp2 yp3 yp4 yp5 yq0 yq1 yq2 yq3 yq4 yq5
 have hs8:=hb8.size
 have hT8:=below_then hT7 hb8
 have kp:=kp.below hb8 kp.lt
 have kq:=kq.below hb8 kq.lt
 have kd:=kd.below hb8 kd.lt
 have od:=od.below hb8 (by omega)
 clear hT7
 clear hb8
 go_wp2_with fail
 refine (HEM.out _ hbn3 (om.in_ fM (by omega))).mono ?_
 rintro e w9 ⟨e0,e1,e2,rfl,oe,hb9⟩
 obtain ⟨eb,eA,en,ec,eD,em,ek,rfl,rfl,rfl⟩:=oe.cut
 have hbn4:=below_then hbn3 hb9
 clear hbn3 HEM
 have hs9:=hb9.size
 have hT9:=below_then hT8 hb9
 have kp:=kp.below hb9 kp.lt
 have kq:=kq.below hb9 kq.lt
 have kd:=kd.below hb9 kd.lt
 have od:=od.below hb9 (by omega)
 have om:=om.below hb9 (by omega)
 clear hT8
 clear hb9 om
 obtain ⟨w10,hw10⟩:∃ xw,xw=(w9.alloc (.cells #[.bool eb,.slice eA en ec,.slice eD em ek] 27)):=⟨_,rfl⟩
 have hb10:Below w9.heap.size w9 w10:=by rw [hw10];exact below_new _ _
 have hq10:w10.heap.size=w9.heap.size+1:=by rw [hw10,alloc_size]
 have ke:Box w10 (w9.heap.size) 27 #[.bool eb,.slice eA en ec,.slice eD em ek]:=by rw [hw10];exact Box.last _ _ _ (by omega)
 have hs10:=hb10.size
 have hT10:=below_then hT9 hb10
 have kp:=kp.below hb10 kp.lt
 have kq:=kq.below hb10 kq.lt
 have kd:=kd.below hb10 kd.lt
 have od:=od.below hb10 (by omega)
 have oe:=oe.below hb10 (by omega)
 clear hT9
 go_upto_region 8 with fail
 rw [←hw10]
 have hbY10:=hb10
 clear hw10 hb10
 have hbn5:=below_then hbn4 hbY10
 clear hbn4
 have HQd:=hide (fun (W:World) (h:Below w10.heap.size w10 W)=>((od.in_ fd (show _≤w10.heap.size by omega)).below h).wider h.size)
 have HQe:=hide (fun (W:World) (h:Below w10.heap.size w10 W)=>((oe.in_ fe (show _≤w10.heap.size by omega)).below h).wider h.size)
 clear od oe
 have HBp:=hide kp
 have HBq:=hide kq
 have HBd:=hide kd
 have HBe:=hide ke
 clear kp kq kd ke
 have HZ5:=hide hbn5
 clear hbn5
 have HTT:=hide hT10
 clear hT10
 have HZ:=HZ5
 have hc1:(0 < c1)=False:=eq_false (by have:=I1.out;omega)
 have hc2:(0 < c2)=False:=eq_false (by have:=I2.out;omega)
 have hd1:decide (0 < c1)=false:=decide_eq_false (by have:=I1.out;omega)
 have hd2:decide (0 < c2)=false:=decide_eq_false (by have:=I2.out;omega)
 have HS0:Hid (Below w10.heap.size w10 w10.drew):=(Below.refl _ _).drew
 have HKS:=hide (fun (W:World) (hq:Below w10.heap.size w10 W)=>(⟨(HBp.out.below hq HBp.out.lt).cell 0,(HBp.out.below hq HBp.out.lt).cell 1,(HBp.out.below hq HBp.out.lt).cell 2,(HBp.out.below hq HBp.out.lt).cell 3,(HBp.out.below hq HBp.out.lt).cell 4,(HBp.out.below hq HBp.out.lt).cell 5,(HBq.out.below hq HBq.out.lt).cell 0,(HBq.out.below hq HBq.out.lt).cell 1,(HBq.out.below hq HBq.out.lt).cell 2,(HBq.out.below hq HBq.out.lt).cell 3,(HBq.out.below hq HBq.out.lt).cell 4,(HBq.out.below hq HBq.out.lt).cell 5,(HBd.out.below hq HBd.out.lt).cell 0,(HBd.out.below hq HBd.out.lt).cell 1,(HBd.out.below hq HBd.out.lt).cell 2,(HBe.out.below hq HBe.out.lt).cell 0,(HBe.out.below hq HBe.out.lt).cell 1,(HBe.out.below hq HBe.out.lt).cell 2,(HYC.out _ (below_then HZ.out hq)).1,(HYC.out _ (below_then HZ.out hq)).2⟩:W.cell? ⟨w1.heap.size,0,none⟩=some (.bool pb)∧W.cell? ⟨w1.heap.size,1,none⟩=some (.slice pA pn pc)∧W.cell? ⟨w1.heap.size,2,none⟩=some (.slice pD pm pk)∧W.cell? ⟨w1.heap.size,3,none⟩=some (.bool pyb)∧W.cell? ⟨w1.heap.size,4,none⟩=some (.slice pyA pyn pyc)∧W.cell? ⟨w1.heap.size,5,none⟩=some (.slice pyD pym pyk)∧W.cell? ⟨w3.heap.size,0,none⟩=some (.bool qb)∧W.cell? ⟨w3.heap.size,1,none⟩=some (.slice qA qn qc)∧W.cell? ⟨w3.heap.size,2,none⟩=some (.slice qD qm qk)∧W.cell? ⟨w3.heap.size,3,none⟩=some (.bool qyb)∧W.cell? ⟨w3.heap.size,4,none⟩=some (.slice qyA qyn qyc)∧W.cell? ⟨w3.heap.size,5,none⟩=some (.slice qyD qym qyk)∧W.cell? ⟨w6.heap.size,0,none⟩=some (.bool db)∧W.cell? ⟨w6.heap.size,1,none⟩=some (.slice dA dn dc)∧W.cell? ⟨w6.heap.size,2,none⟩=some (.slice dD dm dk)∧W.cell? ⟨w9.heap.size,0,none⟩=some (.bool eb)∧W.cell? ⟨w9.heap.size,1,none⟩=some (.slice eA en ec)∧W.cell? ⟨w9.heap.size,2,none⟩=some (.slice eD em ek)∧W.cell? ⟨gL,0,none⟩=some (.int .i64 b1)∧W.cell? ⟨gL,1,none⟩=some (.int .i64 b2)))
 refine wp_region_held_drew (S:=(fun w'=>w'.cell? ⟨w1.heap.size,0,none⟩=some (.bool pb)∧w'.cell? ⟨w1.heap.size,1,none⟩=some (.slice pA pn pc)∧w'.cell? ⟨w1.heap.size,2,none⟩=some (.slice pD pm pk)∧w'.cell? ⟨w1.heap.size,3,none⟩=some (.bool pyb)∧w'.cell? ⟨w1.heap.size,4,none⟩=some (.slice pyA pyn pyc)∧w'.cell? ⟨w1.heap.size,5,none⟩=some (.slice pyD pym pyk)∧w'.cell? ⟨w3.heap.size,0,none⟩=some (.bool qb)∧w'.cell? ⟨w3.heap.size,1,none⟩=some (.slice qA qn qc)∧w'.cell? ⟨w3.heap.size,2,none⟩=some (.slice qD qm qk)∧w'.cell? ⟨w3.heap.size,3,none⟩=some (.bool qyb)∧w'.cell? ⟨w3.heap.size,4,none⟩=some (.slice qyA qyn qyc)∧w'.cell? ⟨w3.heap.size,5,none⟩=some (.slice qyD qym qyk)∧w'.cell? ⟨w6.heap.size,0,none⟩=some (.bool db)∧w'.cell? ⟨w6.heap.size,1,none⟩=some (.slice dA dn dc)∧w'.cell? ⟨w6.heap.size,2,none⟩=some (.slice dD dm dk)∧w'.cell? ⟨w9.heap.size,0,none⟩=some (.bool eb)∧w'.cell? ⟨w9.heap.size,1,none⟩=some (.slice eA en ec)∧w'.cell? ⟨w9.heap.size,2,none⟩=some (.slice eD em ek)∧w'.cell? ⟨gL,0,none⟩=some (.int .i64 b1)∧w'.cell? ⟨gL,1,none⟩=some (.int .i64 b2))) (by kernel_rfl) (HKS.out _ HS0.out) (fun hHeld=>?_)
 show wpAnyH _ _ _ _ _ 22 _ _ _
 refine takeTQ (i:=0) (t:=26) (v:=?_) rfl (by kernel_rfl) (by kernel_rfl) (by kernel_rfl) (fun _ _ _ h=>h) rfl (by rfl) ?_ hHeld ?_
 rotate_left 1
 · intro w hSw;(try dsimp only at hSw);go_simp;with_reducible rfl
 simp only [List.setIfInBounds_toArray,List.set_cons_zero,List.set_cons_succ]
 refine wpAnyH_ready (rs:=[1]) (by kernel_rfl) (by simp) ?_
 refine AllReadyH.cons rfl (fun K hK=>?_) AllReadyH.nil
 simp only [List.getElem_toArray,List.getElem_cons_succ,List.getElem_cons_zero]
 go_simp
 (have HX:=HS0.out;(with_reducible refine Calls.mono (ok_true _ _ (Nat.le_refl _) (HQd.out _ HS0.out) V1.out) ?_);rintro e u1 ⟨rfl,hb1⟩;have HS1:=hide (below_then HX hb1);clear HX)
 go_wp2_with fail
 refine hK.out _ _ (HKS.out _ HS1.out) (fun hHeld=>?_)
 clear hK K
 refine takeTQ (i:=2) (t:=28) (v:=?_) rfl (by kernel_rfl) (by kernel_rfl) (by kernel_rfl) (fun _ _ _ h=>h) rfl (by rfl) ?_ hHeld ?_
 rotate_left 1
 · intro w hSw;(try dsimp only at hSw);go_simp;with_reducible rfl
 simp only [List.setIfInBounds_toArray,List.set_cons_zero,List.set_cons_succ]
 refine takeTQ (i:=3) (t:=29) (v:=?_) rfl (by kernel_rfl) (by kernel_rfl) (by kernel_rfl) (fun _ _ _ h=>h) rfl (by rfl) ?_ hHeld ?_
 rotate_left 1
 · intro w hSw;(try dsimp only at hSw);go_simp;with_reducible rfl
 simp only [List.setIfInBounds_toArray,List.set_cons_zero,List.set_cons_succ]
 refine takeTQ (i:=4) (t:=30) (v:=?_) rfl (by kernel_rfl) (by kernel_rfl) (by kernel_rfl) (fun _ _ _ h=>h) rfl (by rfl) ?_ hHeld ?_
 rotate_left 1
 · intro w hSw;(try dsimp only at hSw);go_simp;with_reducible rfl
 simp only [List.setIfInBounds_toArray,List.set_cons_zero,List.set_cons_succ]
 refine wpAnyH_ready (rs:=[5]) (by kernel_rfl) (by simp) ?_
 refine AllReadyH.cons rfl (fun K hK=>?_) AllReadyH.nil
 simp only [List.getElem_toArray,List.getElem_cons_succ,List.getElem_cons_zero]
 go_simp
 (have HX:=HS1.out;(with_reducible refine Calls.mono (ok_true _ _ (Nat.le_refl _) (HQe.out _ HS1.out) V2.out) ?_);rintro e u2 ⟨rfl,hb2⟩;have HS2:=hide (below_then HX hb2);clear HX)
 go_wp2_with fail
 refine hK.out _ _ (HKS.out _ HS2.out) (fun hHeld=>?_)
 clear hK K
 refine takeTQ (i:=6) (t:=32) (v:=?_) rfl (by kernel_rfl) (by kernel_rfl) (by kernel_rfl) (fun _ _ _ h=>h) rfl (by rfl) ?_ hHeld ?_
 rotate_left 1
 · intro w hSw;(try dsimp only at hSw);go_simp;with_reducible rfl
 simp only [List.setIfInBounds_toArray,List.set_cons_zero,List.set_cons_succ]
 refine takeTQ (i:=7) (t:=33) (v:=?_) rfl (by kernel_rfl) (by kernel_rfl) (by kernel_rfl) (fun _ _ _ h=>h) rfl (by rfl) ?_ hHeld ?_
 rotate_left 1
 · intro w hSw;(try dsimp only at hSw);go_simp;with_reducible rfl
 simp only [List.setIfInBounds_toArray,List.set_cons_zero,List.set_cons_succ]
 refine takeTQ (i:=8) (t:=34) (v:=?_) rfl (by kernel_rfl) (by kernel_rfl) (by kernel_rfl) (fun _ _ _ h=>h) rfl (by rfl) ?_ hHeld ?_
 rotate_left 1
 · intro w hSw;(try dsimp only at hSw);go_simp;with_reducible rfl
 simp only [List.setIfInBounds_toArray,List.set_cons_zero,List.set_cons_succ]
 refine takeTQ (i:=9) (t:=35) (v:=?_) rfl (by kernel_rfl) (by kernel_rfl) (by kernel_rfl) (fun _ _ _ h=>h) rfl (by rfl) ?_ hHeld ?_
 rotate_left 1
 · intro w hSw;(try dsimp only at hSw);go_simp;with_reducible rfl
 simp only [List.setIfInBounds_toArray,List.set_cons_zero,List.set_cons_succ]
 refine takeTQ (i:=10) (t:=36) (v:=?_) rfl (by kernel_rfl) (by kernel_rfl) (by kernel_rfl) (fun _ _ _ h=>h) rfl (by rfl) ?_ hHeld ?_
 rotate_left 1
 · intro w hSw;(try dsimp only at hSw);go_simp;with_reducible rfl
 simp only [List.setIfInBounds_toArray,List.set_cons_zero,List.set_cons_succ]
 refine wpAnyH_ready (rs:=[11]) (by kernel_rfl) (by simp) ?_
 refine AllReadyH.cons rfl (fun K hK=>?_) AllReadyH.nil
 simp only [List.getElem_toArray,List.getElem_cons_succ,List.getElem_cons_zero]
 go_simp
 (have HX:=HS2.out;(with_reducible refine Calls.mono (cmp_is _ _ (Nat.le_refl _) (HQd.out _ HS2.out) (HQe.out _ HS2.out) ⟨V1.out,V2.out,E12.out⟩) ?_);rintro e u3 ⟨rfl,hb3⟩;have HS3:=hide (below_then HX hb3);clear HX)
 go_wp2_with fail
 refine hK.out _ _ (HKS.out _ HS3.out) (fun hHeld=>?_)
 clear hK K
 refine takeTQ (i:=12) (t:=38) (v:=?_) rfl (by kernel_rfl) (by kernel_rfl) (by kernel_rfl) (fun _ _ _ h=>h) rfl (by rfl) ?_ hHeld ?_
 rotate_left 1
 · intro w hSw;(try dsimp only at hSw);go_simp;with_reducible rfl
 simp only [List.setIfInBounds_toArray,List.set_cons_zero,List.set_cons_succ]
 refine takeTQ (i:=13) (t:=39) (v:=?_) rfl (by kernel_rfl) (by kernel_rfl) (by kernel_rfl) (fun _ _ _ h=>h) rfl (by rfl) ?_ hHeld ?_
 rotate_left 1
 · intro w hSw;(try dsimp only at hSw);go_simp;with_reducible rfl
 simp only [List.setIfInBounds_toArray,List.set_cons_zero,List.set_cons_succ]
 refine takeTQ (i:=14) (t:=40) (v:=?_) rfl (by kernel_rfl) (by kernel_rfl) (by kernel_rfl) (fun _ _ _ h=>h) rfl (by rfl) ?_ hHeld ?_
 rotate_left 1
 · intro w hSw;(try dsimp only at hSw);go_simp;with_reducible rfl
 simp only [List.setIfInBounds_toArray,List.set_cons_zero,List.set_cons_succ]
 refine takeTQ (i:=15) (t:=41) (v:=?_) rfl (by kernel_rfl) (by kernel_rfl) (by kernel_rfl) (fun _ _ _ h=>h) rfl (by rfl) ?_ hHeld ?_
 rotate_left 1
 · intro w hSw;(try dsimp only at hSw);go_simp;with_reducible rfl
 simp only [List.setIfInBounds_toArray,List.set_cons_zero,List.set_cons_succ]
 refine takeTQ (i:=16) (t:=42) (v:=?_) rfl (by kernel_rfl) (by kernel_rfl) (by kernel_rfl) (fun _ _ _ h=>h) rfl (by rfl) ?_ hHeld ?_
 rotate_left 1
 · intro w hSw;(try dsimp only at hSw);go_simp;with_reducible rfl
 simp only [List.setIfInBounds_toArray,List.set_cons_zero,List.set_cons_succ]
 refine takeTQ (i:=17) (t:=43) (v:=?_) rfl (by kernel_rfl) (by kernel_rfl) (by kernel_rfl) (fun _ _ _ h=>h) rfl (by rfl) ?_ hHeld ?_
 rotate_left 1
 · intro w hSw;(try dsimp only at hSw);go_simp;with_reducible rfl
 simp only [List.setIfInBounds_toArray,List.set_cons_zero,List.set_cons_succ]
 refine wpAnyH_ready (rs:=[18]) (by kernel_rfl) (by simp) ?_
 refine AllReadyH.cons rfl (fun K hK=>?_) AllReadyH.nil
 simp only [List.getElem_toArray,List.getElem_cons_succ,List.getElem_cons_zero]
 go_simp
 (have HX:=HS3.out;(with_reducible refine Calls.mono (HSP.out _ (below_then HZ.out HS3.out)) ?_);rintro e u4 ⟨g0,g1,g2,rfl,og,hb4⟩;obtain ⟨gb,gA,gn,gc,gD,gm,gk,rfl,rfl,rfl⟩:=og.cut;have qg:=og.in_ fg (Nat.le_refl _);have HS4:=hide (below_then HX hb4);clear HX og)
 go_wp2_with fail
 refine hK.out _ _ (HKS.out _ HS4.out) (fun hHeld=>?_)
 clear hK K
 refine wpAnyH_ready (rs:=[19]) (by kernel_rfl) (by simp) ?_
 refine AllReadyH.cons rfl (fun K hK=>?_) AllReadyH.nil
 simp only [List.getElem_toArray,List.getElem_cons_succ,List.getElem_cons_zero]
 go_simp
 (have HX:=HS4.out;(with_reducible refine Calls.mono (cmp_is _ _ (Nat.le_refl _) (HQd.out _ HS4.out) qg ⟨V1.out,V3.out,E13.out⟩) ?_);rintro e u5 ⟨rfl,hb5⟩;have HS5:=hide (below_then HX hb5);clear HX)
 go_wp2_with fail
 refine hK.out _ _ (HKS.out _ HS5.out) (fun hHeld=>?_)
 clear hK K
 refine takeTQ (i:=20) (t:=46) (v:=?_) rfl (by kernel_rfl) (by kernel_rfl) (by kernel_rfl) (fun _ _ _ h=>h) rfl (by rfl) ?_ hHeld ?_
 rotate_left 1
 · intro w hSw;(try dsimp only at hSw);go_simp;with_reducible rfl
 simp only [List.setIfInBounds_toArray,List.set_cons_zero,List.set_cons_succ]
 refine takeTQ (i:=21) (t:=47) (v:=?_) rfl (by kernel_rfl) (by kernel_rfl) (by kernel_rfl) (fun _ _ _ h=>h) rfl (by rfl) ?_ hHeld ?_
 rotate_left 1
 · intro w hSw;(try dsimp only at hSw);go_simp;with_reducible rfl
 simp only [List.setIfInBounds_toArray,List.set_cons_zero,List.set_cons_succ]
 refine wpAnyH_done (by kernel_rfl) ?_ _
 go_wp2_with fail
 obtain ⟨wx,hwx⟩:∃ x,x=u5:=⟨_,rfl⟩
 skip
 have HCp:=hide (HBp.out.below HS5.out HBp.out.lt)
 have HCq:=hide (HBq.out.below HS5.out HBq.out.lt)
 have HCd:=hide (HBd.out.below HS5.out HBd.out.lt)
 have HCe:=hide (HBe.out.below HS5.out HBe.out.lt)
 have HPd:=hide (fun (W:World) (h:Below u5.heap.size u5 W)=>HQd.out W (below_then HS5.out h))
 have HPe:=hide (fun (W:World) (h:Below u5.heap.size u5 W)=>HQe.out W (below_then HS5.out h))
 have HZ8:=hide (below_then HZ.out HS5.out)
 have HT8:=hide (below_then HTT.out HS5.out)
 clear HZ HZ5 HTT HQd HQe HKS HS0 HS1 HS2 HS3 HS4 HS5 hb1 hb2 hb3 hb4 hb5 qg hc1 hc2 hd1 hd2 HSP V3 I1 I2 E12 E13 HBp HBq HBd HBe
 have HZ:=HZ8
 have HQd:=HPd
 have HQe:=HPe
 have HBp:=HCp
 have HBq:=HCq
 have HBd:=HCd
 have HBe:=HCe
 have hc3:(c3≤0)=True:=eq_true I3.out
 have hd3:decide (c3≤0)=true:=decide_eq_true I3.out
 have i4:=I4.out
 have i5:=I5.out
 have i6:=I6.out
 have i7:=I7.out
 clear I3 I4 I5 I6 I7
 generalize u5=v5 at *
 have HSD:=hide (fun (W:World) (h:Below v5.heap.size v5 W)=>impl_signQ W W.heap.size (Nat.le_refl _) (HQd.out W h))
 rw [E10.out] at HSD
 have HSE:=hide (fun (W:World) (h:Below v5.heap.size v5 W)=>impl_signQ W W.heap.size (Nat.le_refl _) (HQe.out W h))
 rw [E11.out] at HSE
 clear HPd HPe HQd HQe
 have hL0:(0 < LL.length)=True:=eq_true (by have:=h3L;omega)
 by_cases hy:by_=true <;> by_cases hk:bk < 0
 all_goals
  first
  | (rw [i4 hy] at HSD;rw [hy] at HSM;rw [i7 hk] at HSE;have hk1:decide (0≤bk)=false:=decide_eq_false (by omega);have hk2:(0≤bk)=False:=eq_false (by omega))
  | (rw [i4 hy] at HSD;rw [hy] at HSM;rw [i6 (by omega)] at HSE;have hk1:decide (0≤bk)=true:=decide_eq_true (by omega);have hk2:(0≤bk)=True:=eq_true (by omega))
  | (have hy:by_=false:=(by simpa using hy);rw [i5 hy] at HSD;rw [hy] at HSM;rw [i7 hk] at HSE;have hk1:decide (0≤bk)=false:=decide_eq_false (by omega);have hk2:(0≤bk)=False:=eq_false (by omega))
  | (have hy:by_=false:=(by simpa using hy);rw [i5 hy] at HSD;rw [hy] at HSM;rw [i6 (by omega)] at HSE;have hk1:decide (0≤bk)=true:=decide_eq_true (by omega);have hk2:(0≤bk)=True:=eq_true (by omega))
  have HS0:Hid (Below v5.heap.size v5 v5.drew):=(Below.refl _ _).drew
  have HKS:=hide (fun (W:World) (hq:Below v5.heap.size v5 W)=>(⟨(HBp.out.below hq HBp.out.lt).cell 0,(HBp.out.below hq HBp.out.lt).cell 1,(HBp.out.below hq HBp.out.lt).cell 2,(HBp.out.below hq HBp.out.lt).cell 3,(HBp.out.below hq HBp.out.lt).cell 4,(HBp.out.below hq HBp.out.lt).cell 5,(HBq.out.below hq HBq.out.lt).cell 0,(HBq.out.below hq HBq.out.lt).cell 1,(HBq.out.below hq HBq.out.lt).cell 2,(HBq.out.below hq HBq.out.lt).cell 3,(HBq.out.below hq HBq.out.lt).cell 4,(HBq.out.below hq HBq.out.lt).cell 5,(HBd.out.below hq HBd.out.lt).cell 0,(HBd.out.below hq HBd.out.lt).cell 1,(HBd.out.below hq HBd.out.lt).cell 2,(HBe.out.below hq HBe.out.lt).cell 0,(HBe.out.below hq HBe.out.lt).cell 1,(HBe.out.below hq HBe.out.lt).cell 2,(HYC.out _ (below_then HZ.out hq)).1,(HYC.out _ (below_then HZ.out hq)).2⟩:W.cell? ⟨w1.heap.size,0,none⟩=some (.bool pb)∧W.cell? ⟨w1.heap.size,1,none⟩=some (.slice pA pn pc)∧W.cell? ⟨w1.heap.size,2,none⟩=some (.slice pD pm pk)∧W.cell? ⟨w1.heap.size,3,none⟩=some (.bool pyb)∧W.cell? ⟨w1.heap.size,4,none⟩=some (.slice pyA pyn pyc)∧W.cell? ⟨w1.heap.size,5,none⟩=some (.slice pyD pym pyk)∧W.cell? ⟨w3.heap.size,0,none⟩=some (.bool qb)∧W.cell? ⟨w3.heap.size,1,none⟩=some (.slice qA qn qc)∧W.cell? ⟨w3.heap.size,2,none⟩=some (.slice qD qm qk)∧W.cell? ⟨w3.heap.size,3,none⟩=some (.bool qyb)∧W.cell? ⟨w3.heap.size,4,none⟩=some (.slice qyA qyn qyc)∧W.cell? ⟨w3.heap.size,5,none⟩=some (.slice qyD qym qyk)∧W.cell? ⟨w6.heap.size,0,none⟩=some (.bool db)∧W.cell? ⟨w6.heap.size,1,none⟩=some (.slice dA dn dc)∧W.cell? ⟨w6.heap.size,2,none⟩=some (.slice dD dm dk)∧W.cell? ⟨w9.heap.size,0,none⟩=some (.bool eb)∧W.cell? ⟨w9.heap.size,1,none⟩=some (.slice eA en ec)∧W.cell? ⟨w9.heap.size,2,none⟩=some (.slice eD em ek)∧W.cell? ⟨gL,0,none⟩=some (.int .i64 b1)∧W.cell? ⟨gL,1,none⟩=some (.int .i64 b2)))
  refine wp_region_held_drew (S:=(fun w'=>w'.cell? ⟨w1.heap.size,0,none⟩=some (.bool pb)∧w'.cell? ⟨w1.heap.size,1,none⟩=some (.slice pA pn pc)∧w'.cell? ⟨w1.heap.size,2,none⟩=some (.slice pD pm pk)∧w'.cell? ⟨w1.heap.size,3,none⟩=some (.bool pyb)∧w'.cell? ⟨w1.heap.size,4,none⟩=some (.slice pyA pyn pyc)∧w'.cell? ⟨w1.heap.size,5,none⟩=some (.slice pyD pym pyk)∧w'.cell? ⟨w3.heap.size,0,none⟩=some (.bool qb)∧w'.cell? ⟨w3.heap.size,1,none⟩=some (.slice qA qn qc)∧w'.cell? ⟨w3.heap.size,2,none⟩=some (.slice qD qm qk)∧w'.cell? ⟨w3.heap.size,3,none⟩=some (.bool qyb)∧w'.cell? ⟨w3.heap.size,4,none⟩=some (.slice qyA qyn qyc)∧w'.cell? ⟨w3.heap.size,5,none⟩=some (.slice qyD qym qyk)∧w'.cell? ⟨w6.heap.size,0,none⟩=some (.bool db)∧w'.cell? ⟨w6.heap.size,1,none⟩=some (.slice dA dn dc)∧w'.cell? ⟨w6.heap.size,2,none⟩=some (.slice dD dm dk)∧w'.cell? ⟨w9.heap.size,0,none⟩=some (.bool eb)∧w'.cell? ⟨w9.heap.size,1,none⟩=some (.slice eA en ec)∧w'.cell? ⟨w9.heap.size,2,none⟩=some (.slice eD em ek)∧w'.cell? ⟨gL,0,none⟩=some (.int .i64 b1)∧w'.cell? ⟨gL,1,none⟩=some (.int .i64 b2))) (by kernel_rfl) (HKS.out _ HS0.out) (fun hHeld=>?_)
  show wpAnyH _ _ _ _ _ 45 _ _ _
  refine takeTQ (i:=0) (t:=48) (v:=?_) rfl (by kernel_rfl) (by kernel_rfl) (by kernel_rfl) (fun _ _ _ h=>h) rfl (by rfl) ?_ hHeld ?_
  rotate_left 1
  · intro w hSw;(try dsimp only at hSw);go_simp;with_reducible rfl
  simp only [List.setIfInBounds_toArray,List.set_cons_zero,List.set_cons_succ]
  refine takeTQ (i:=3) (t:=51) (v:=?_) rfl (by kernel_rfl) (by kernel_rfl) (by kernel_rfl) (fun _ _ _ h=>h) rfl (by rfl) ?_ hHeld ?_
  rotate_left 1
  · intro w hSw;(try dsimp only at hSw);go_simp;with_reducible rfl
  simp only [List.setIfInBounds_toArray,List.set_cons_zero,List.set_cons_succ]
  refine takeTQ (i:=4) (t:=52) (v:=?_) rfl (by kernel_rfl) (by kernel_rfl) (by kernel_rfl) (fun _ _ _ h=>h) rfl (by rfl) ?_ hHeld ?_
  rotate_left 1
  · intro w hSw;(try dsimp only at hSw);go_simp;with_reducible rfl
  simp only [List.setIfInBounds_toArray,List.set_cons_zero,List.set_cons_succ]
  refine takeTQ (i:=5) (t:=53) (v:=?_) rfl (by kernel_rfl) (by kernel_rfl) (by kernel_rfl) (fun _ _ _ h=>h) rfl (by rfl) ?_ hHeld ?_
  rotate_left 1
  · intro w hSw;(try dsimp only at hSw);go_simp;with_reducible rfl
  simp only [List.setIfInBounds_toArray,List.set_cons_zero,List.set_cons_succ]
  refine wpAnyH_ready (rs:=[1]) (by kernel_rfl) (by simp) ?_
  refine AllReadyH.cons rfl (fun K hK=>?_) AllReadyH.nil
  simp only [List.getElem_toArray,List.getElem_cons_succ,List.getElem_cons_zero]
  go_simp
  (have HX:=HS0.out;(with_reducible refine Calls.mono (HSD.out _ HS0.out) ?_);rintro e u1 ⟨rfl,hb1⟩;have HS1:=hide (below_then HX hb1);clear HX)
  go_wp2_with fail
  refine hK.out _ _ (HKS.out _ HS1.out) (fun hHeld=>?_)
  clear hK K
  refine takeTQ (i:=2) (t:=50) (v:=?_) rfl (by kernel_rfl) (by kernel_rfl) (by kernel_rfl) (fun _ _ _ h=>h) rfl (by rfl) ?_ hHeld ?_
  rotate_left 1
  · intro w hSw;(try dsimp only at hSw);go_simp;with_reducible rfl
  simp only [List.setIfInBounds_toArray,List.set_cons_zero,List.set_cons_succ]
  refine wpAnyH_ready (rs:=[6]) (by kernel_rfl) (by simp) ?_
  refine AllReadyH.cons rfl (fun K hK=>?_) AllReadyH.nil
  simp only [List.getElem_toArray,List.getElem_cons_succ,List.getElem_cons_zero]
  go_simp
  (have HX:=HS1.out;(with_reducible refine Calls.mono (HSM.out _ (below_then HZ.out HS1.out)) ?_);rintro e u2 ⟨rfl,hb2⟩;have HS2:=hide (below_then HX hb2);clear HX)
  go_wp2_with fail
  refine hK.out _ _ (HKS.out _ HS2.out) (fun hHeld=>?_)
  clear hK K
  refine takeTQ (i:=7) (t:=55) (v:=?_) rfl (by kernel_rfl) (by kernel_rfl) (by kernel_rfl) (fun _ _ _ h=>h) rfl (by rfl) ?_ hHeld ?_
  rotate_left 1
  · intro w hSw;(try dsimp only at hSw);go_simp;with_reducible rfl
  simp only [List.setIfInBounds_toArray,List.set_cons_zero,List.set_cons_succ]
  refine takeTQ (i:=8) (t:=56) (v:=?_) rfl (by kernel_rfl) (by kernel_rfl) (by kernel_rfl) (fun _ _ _ h=>h) rfl (by rfl) ?_ hHeld ?_
  rotate_left 1
  · intro w hSw;(try dsimp only at hSw);go_simp;with_reducible rfl
  simp only [List.setIfInBounds_toArray,List.set_cons_zero,List.set_cons_succ]
  refine takeTQ (i:=9) (t:=57) (v:=?_) rfl (by kernel_rfl) (by kernel_rfl) (by kernel_rfl) (fun _ _ _ h=>h) rfl (by rfl) ?_ hHeld ?_
  rotate_left 1
  · intro w hSw;(try dsimp only at hSw);go_simp;with_reducible rfl
  simp only [List.setIfInBounds_toArray,List.set_cons_zero,List.set_cons_succ]
  refine takeTQ (i:=12) (t:=60) (v:=?_) rfl (by kernel_rfl) (by kernel_rfl) (by kernel_rfl) (fun _ _ _ h=>h) rfl (by rfl) ?_ hHeld ?_
  rotate_left 1
  · intro w hSw;(try dsimp only at hSw);go_simp;with_reducible rfl
  simp only [List.setIfInBounds_toArray,List.set_cons_zero,List.set_cons_succ]
  refine takeTQ (i:=13) (t:=61) (v:=?_) rfl (by kernel_rfl) (by kernel_rfl) (by kernel_rfl) (fun _ _ _ h=>h) rfl (by rfl) ?_ hHeld ?_
  rotate_left 1
  · intro w hSw;(try dsimp only at hSw);go_simp;with_reducible rfl
  simp only [List.setIfInBounds_toArray,List.set_cons_zero,List.set_cons_succ]
  refine takeTQ (i:=14) (t:=62) (v:=?_) rfl (by kernel_rfl) (by kernel_rfl) (by kernel_rfl) (fun _ _ _ h=>h) rfl (by rfl) ?_ hHeld ?_
  rotate_left 1
  · intro w hSw;(try dsimp only at hSw);go_simp;with_reducible rfl
  simp only [List.setIfInBounds_toArray,List.set_cons_zero,List.set_cons_succ]
  refine wpAnyH_ready (rs:=[10]) (by kernel_rfl) (by simp) ?_
  refine AllReadyH.cons rfl (fun K hK=>?_) AllReadyH.nil
  simp only [List.getElem_toArray,List.getElem_cons_succ,List.getElem_cons_zero]
  go_simp
  (have HX:=HS2.out;(with_reducible refine Calls.mono (HSE.out _ HS2.out) ?_);rintro e u3 ⟨rfl,hb3⟩;have HS3:=hide (below_then HX hb3);clear HX)
  go_wp2_with fail
  refine hK.out _ _ (HKS.out _ HS3.out) (fun hHeld=>?_)
  clear hK K
  refine takeTQ (i:=11) (t:=59) (v:=?_) rfl (by kernel_rfl) (by kernel_rfl) (by kernel_rfl) (fun _ _ _ h=>h) rfl (by rfl) ?_ hHeld ?_
  rotate_left 1
  · intro w hSw;(try dsimp only at hSw);go_simp;with_reducible rfl
  simp only [List.setIfInBounds_toArray,List.set_cons_zero,List.set_cons_succ]
  refine wpAnyH_ready (rs:=[15]) (by kernel_rfl) (by simp) ?_
  refine AllReadyH.cons rfl (fun K hK=>?_) AllReadyH.nil
  simp only [List.getElem_toArray,List.getElem_cons_succ,List.getElem_cons_zero]
  go_simp
  (have HX:=HS3.out;(with_reducible refine Calls.mono (HMI.out _ (below_then HZ.out HS3.out)) ?_);rintro e u4 ⟨m0,m1,m2,m3,m4,m5,rfl,om,hb4⟩;obtain ⟨mb,mA,mn,mc,mD,mm,mk,myb,myA,myn,myc,myD,mym,myk,rfl,rfl,rfl,rfl,rfl,rfl⟩:=om.cut;have qm:=om.in_ fM (Nat.le_refl _);have HS4:=hide (below_then HX hb4);clear HX om)
  go_wp2_with fail
  refine hK.out _ _ (HKS.out _ HS4.out) (fun hHeld=>?_)
  clear hK K
  refine wpAnyH_ready (rs:=[16]) (by kernel_rfl) (by simp) ?_
  refine AllReadyH.cons rfl (fun K hK=>?_) AllReadyH.nil
  simp only [List.getElem_toArray,List.getElem_cons_succ,List.getElem_cons_zero]
  go_simp
  (have HX:=HS4.out;(with_reducible refine Calls.mono (HCM.out _ (below_then HZ.out HS4.out) qm) ?_);rintro e u5 ⟨rfl,hb5⟩;have HS5:=hide (below_then HX hb5);clear HX)
  go_wp2_with fail
  refine hK.out _ _ (HKS.out _ HS5.out) (fun hHeld=>?_)
  clear hK K
  refine takeTQ (i:=17) (t:=65) (v:=?_) rfl (by kernel_rfl) (by kernel_rfl) (by kernel_rfl) (fun _ _ _ h=>h) rfl (by rfl) ?_ hHeld ?_
  rotate_left 1
  · intro w hSw;(try dsimp only at hSw);go_simp;with_reducible rfl
  simp only [List.setIfInBounds_toArray,List.set_cons_zero,List.set_cons_succ]
  refine takeTQ (i:=18) (t:=66) (v:=?_) rfl (by kernel_rfl) (by kernel_rfl) (by kernel_rfl) (fun _ _ _ h=>h) rfl (by rfl) ?_ hHeld ?_
  rotate_left 1
  · intro w hSw;(try dsimp only at hSw);go_simp;with_reducible rfl
  simp only [List.setIfInBounds_toArray,List.set_cons_zero,List.set_cons_succ]
  refine takeTQ (i:=19) (t:=67) (v:=?_) rfl (by kernel_rfl) (by kernel_rfl) (by kernel_rfl) (fun _ _ _ h=>h) rfl (by rfl) ?_ hHeld ?_
  rotate_left 1
  · intro w hSw;(try dsimp only at hSw);go_simp;with_reducible rfl
  simp only [List.setIfInBounds_toArray,List.set_cons_zero,List.set_cons_succ]
  refine takeTQ (i:=20) (t:=68) (v:=?_) rfl (by kernel_rfl) (by kernel_rfl) (by kernel_rfl) (fun _ _ _ h=>h) rfl (by rfl) ?_ hHeld ?_
  rotate_left 1
  · intro w hSw;(try dsimp only at hSw);go_simp;with_reducible rfl
  simp only [List.setIfInBounds_toArray,List.set_cons_zero,List.set_cons_succ]
  refine takeTQ (i:=21) (t:=69) (v:=?_) rfl (by kernel_rfl) (by kernel_rfl) (by kernel_rfl) (fun _ _ _ h=>h) rfl (by rfl) ?_ hHeld ?_
  rotate_left 1
  · intro w hSw;(try dsimp only at hSw);go_simp;with_reducible rfl
  simp only [List.setIfInBounds_toArray,List.set_cons_zero,List.set_cons_succ]
  refine takeTQ (i:=22) (t:=70) (v:=?_) rfl (by kernel_rfl) (by kernel_rfl) (by kernel_rfl) (fun _ _ _ h=>h) rfl (by rfl) ?_ hHeld ?_
  rotate_left 1
  · intro w hSw;(try dsimp only at hSw);go_simp;with_reducible rfl
  simp only [List.setIfInBounds_toArray,List.set_cons_zero,List.set_cons_succ]
  refine takeTQ (i:=23) (t:=71) (v:=?_) rfl (by kernel_rfl) (by kernel_rfl) (by kernel_rfl) (fun _ _ _ h=>h) rfl (by rfl) ?_ hHeld ?_
  rotate_left 1
  · intro w hSw;(try dsimp only at hSw);go_simp;with_reducible rfl
  simp only [List.setIfInBounds_toArray,List.set_cons_zero,List.set_cons_succ]
  refine takeTQ (i:=24) (t:=72) (v:=?_) rfl (by kernel_rfl) (by kernel_rfl) (by kernel_rfl) (fun _ _ _ h=>h) rfl (by rfl) ?_ hHeld ?_
  rotate_left 1
  · intro w hSw;(try dsimp only at hSw);go_simp;with_reducible rfl
  simp only [List.setIfInBounds_toArray,List.set_cons_zero,List.set_cons_succ]
  refine takeTQ (i:=25) (t:=73) (v:=?_) rfl (by kernel_rfl) (by kernel_rfl) (by kernel_rfl) (fun _ _ _ h=>h) rfl (by rfl) ?_ hHeld ?_
  rotate_left 1
  · intro w hSw;(try dsimp only at hSw);go_simp;with_reducible rfl
  simp only [List.setIfInBounds_toArray,List.set_cons_zero,List.set_cons_succ]
  refine takeTQ (i:=28) (t:=76) (v:=?_) rfl (by kernel_rfl) (by kernel_rfl) (by kernel_rfl) (fun _ _ _ h=>h) rfl (by rfl) ?_ hHeld ?_
  rotate_left 1
  · intro w hSw;(try dsimp only at hSw);go_simp;with_reducible rfl
  simp only [List.setIfInBounds_toArray,List.set_cons_zero,List.set_cons_succ]
  refine takeTQ (i:=29) (t:=77) (v:=?_) rfl (by kernel_rfl) (by kernel_rfl) (by kernel_rfl) (fun _ _ _ h=>h) rfl (by rfl) ?_ hHeld ?_
  rotate_left 1
  · intro w hSw;(try dsimp only at hSw);go_simp;with_reducible rfl
  simp only [List.setIfInBounds_toArray,List.set_cons_zero,List.set_cons_succ]
  refine wpAnyH_ready (rs:=[26]) (by kernel_rfl) (by simp) ?_
  refine AllReadyH.cons rfl (fun K hK=>?_) AllReadyH.nil
  simp only [List.getElem_toArray,List.getElem_cons_succ,List.getElem_cons_zero]
  go_simp
  (have HX:=HS5.out;(with_reducible refine Calls.mono (HPO.out _) ?_);rintro e u6 ⟨c0,c1,c2,c3,c4,c5,rfl,oc,hb6⟩;obtain ⟨cb,cA,cn,cc,cD,cm,ck,cyb,cyA,cyn,cyc,cyD,cym,cyk,rfl,rfl,rfl,rfl,rfl,rfl⟩:=oc.cut;have qc:=oc.in_ fV (Nat.le_refl _);have HS6:=hide (below_then HX hb6);clear HX oc)
  go_wp2_with fail
  refine hK.out _ _ (HKS.out _ HS6.out) (fun hHeld=>?_)
  clear hK K
  refine wpAnyH_ready (rs:=[27]) (by kernel_rfl) (by simp) ?_
  refine AllReadyH.cons rfl (fun K hK=>?_) AllReadyH.nil
  simp only [List.getElem_toArray,List.getElem_cons_succ,List.getElem_cons_zero]
  go_simp
  (have HX:=HS6.out;(with_reducible refine Calls.mono (HSS.out _ (below_then HZ.out HS6.out) qc) ?_);rintro e u7 ⟨s0,s1,s2,rfl,os,hb7⟩;obtain ⟨sb,sA,sn,sc,sD,sm,sk,rfl,rfl,rfl⟩:=os.cut;have qs:=os.in_ fs (Nat.le_refl _);have HS7:=hide (below_then HX hb7);clear HX os)
  go_wp2_with fail
  refine hK.out _ _ (HKS.out _ HS7.out) (fun hHeld=>?_)
  clear hK K
  refine wpAnyH_ready (rs:=[30]) (by kernel_rfl) (by simp) ?_
  refine AllReadyH.cons rfl (fun K hK=>?_) AllReadyH.nil
  simp only [List.getElem_toArray,List.getElem_cons_succ,List.getElem_cons_zero]
  go_simp
  (have HX:=HS7.out;(with_reducible refine Calls.mono (HDI.out _ (below_then HZ.out HS7.out)) ?_);rintro e u8 ⟨x0,x1,x2,rfl,ox,hb8⟩;obtain ⟨xb,xA,xn,xc,xD,xm,xk,rfl,rfl,rfl⟩:=ox.cut;have qx:=ox.in_ fds (Nat.le_refl _);have HS8:=hide (below_then HX hb8);clear HX ox;have qs:=qs.up hb8)
  go_wp2_with fail
  refine hK.out _ _ (HKS.out _ HS8.out) (fun hHeld=>?_)
  clear hK K
  refine wpAnyH_ready (rs:=[31]) (by kernel_rfl) (by simp) ?_
  refine AllReadyH.cons rfl (fun K hK=>?_) AllReadyH.nil
  simp only [List.getElem_toArray,List.getElem_cons_succ,List.getElem_cons_zero]
  go_simp
  (have HX:=HS8.out;(with_reducible refine Calls.mono (cmp_is _ _ (Nat.le_refl _) qs qx ⟨V4.out,V5.out,E14.out⟩) ?_);rintro e u9 ⟨rfl,hb9⟩;have HS9:=hide (below_then HX hb9);clear HX)
  go_wp2_with fail
  refine hK.out _ _ (HKS.out _ HS9.out) (fun hHeld=>?_)
  clear hK K
  refine takeTQ (i:=32) (t:=80) (v:=?_) rfl (by kernel_rfl) (by kernel_rfl) (by kernel_rfl) (fun _ _ _ h=>h) rfl (by rfl) ?_ hHeld ?_
  rotate_left 1
  · intro w hSw;(try dsimp only at hSw);go_simp;with_reducible rfl
  simp only [List.setIfInBounds_toArray,List.set_cons_zero,List.set_cons_succ]
  refine takeTQ (i:=33) (t:=81) (v:=?_) rfl (by kernel_rfl) (by kernel_rfl) (by kernel_rfl) (fun _ _ _ h=>h) rfl (by rfl) ?_ hHeld ?_
  rotate_left 1
  · intro w hSw;(try dsimp only at hSw);go_simp;with_reducible rfl
  simp only [List.setIfInBounds_toArray,List.set_cons_zero,List.set_cons_succ]
  refine takeTQ (i:=34) (t:=82) (v:=?_) rfl (by kernel_rfl) (by kernel_rfl) (by kernel_rfl) (fun _ _ _ h=>h) rfl (by rfl) ?_ hHeld ?_
  rotate_left 1
  · intro w hSw;(try dsimp only at hSw);go_simp;with_reducible rfl
  simp only [List.setIfInBounds_toArray,List.set_cons_zero,List.set_cons_succ]
  refine takeTQ (i:=35) (t:=83) (v:=?_) rfl (by kernel_rfl) (by kernel_rfl) (by kernel_rfl) (fun _ _ _ h=>h) rfl (by rfl) ?_ hHeld ?_
  rotate_left 1
  · intro w hSw;(try dsimp only at hSw);go_simp;with_reducible rfl
  simp only [List.setIfInBounds_toArray,List.set_cons_zero,List.set_cons_succ]
  refine takeTQ (i:=36) (t:=84) (v:=?_) rfl (by kernel_rfl) (by kernel_rfl) (by kernel_rfl) (fun _ _ _ h=>h) rfl (by rfl) ?_ hHeld ?_
  rotate_left 1
  · intro w hSw;(try dsimp only at hSw);go_simp;with_reducible rfl
  simp only [List.setIfInBounds_toArray,List.set_cons_zero,List.set_cons_succ]
  refine takeTQ (i:=37) (t:=85) (v:=?_) rfl (by kernel_rfl) (by kernel_rfl) (by kernel_rfl) (fun _ _ _ h=>h) rfl (by rfl) ?_ hHeld ?_
  rotate_left 1
  · intro w hSw;(try dsimp only at hSw);go_simp;with_reducible rfl
  simp only [List.setIfInBounds_toArray,List.set_cons_zero,List.set_cons_succ]
  refine takeTQ (i:=39) (t:=87) (v:=?_) rfl (by kernel_rfl) (by kernel_rfl) (by kernel_rfl) (fun _ _ _ h=>h) rfl (by rfl) ?_ hHeld ?_
  rotate_left 1
  · intro w hSw;(try dsimp only at hSw);go_simp;with_reducible rfl
  simp only [List.setIfInBounds_toArray,List.set_cons_zero,List.set_cons_succ]
  refine takeTQ (i:=40) (t:=88) (v:=?_) rfl (by kernel_rfl) (by kernel_rfl) (by kernel_rfl) (fun _ _ _ h=>h) rfl (by rfl) ?_ hHeld ?_
  rotate_left 1
  · intro w hSw;(try dsimp only at hSw);go_simp;with_reducible rfl
  simp only [List.setIfInBounds_toArray,List.set_cons_zero,List.set_cons_succ]
  refine wpAnyH_ready (rs:=[38]) (by kernel_rfl) (by simp) ?_
  refine AllReadyH.cons rfl (fun K hK=>?_) AllReadyH.nil
  simp only [List.getElem_toArray,List.getElem_cons_succ,List.getElem_cons_zero]
  go_simp
  (have HX:=HS9.out;(with_reducible refine Calls.mono (HIN.out _ (below_then HZ.out HS9.out)) ?_);rintro e u10 ⟨y0,y1,y2,rfl,oy,hb10⟩;obtain ⟨yb,yA,yn,yc,yD,ym,yk,rfl,rfl,rfl⟩:=oy.cut;have qy:=oy.in_ fds (Nat.le_refl _);have HS10:=hide (below_then HX hb10);clear HX oy)
  go_wp2_with fail
  refine hK.out _ _ (HKS.out _ HS10.out) (fun hHeld=>?_)
  clear hK K
  refine wpAnyH_ready (rs:=[41]) (by kernel_rfl) (by simp) ?_
  refine AllReadyH.cons rfl (fun K hK=>?_) AllReadyH.nil
  simp only [List.getElem_toArray,List.getElem_cons_succ,List.getElem_cons_zero]
  go_simp
  (have HX:=HS10.out;(with_reducible refine Calls.mono (HDI.out _ (below_then HZ.out HS10.out)) ?_);rintro e u11 ⟨z0,z1,z2,rfl,oz,hb11⟩;obtain ⟨zb,zA,zn,zc,zD,zm,zk,rfl,rfl,rfl⟩:=oz.cut;have qz:=oz.in_ fds (Nat.le_refl _);have HS11:=hide (below_then HX hb11);clear HX oz;have qy:=qy.up hb11)
  go_wp2_with fail
  refine hK.out _ _ (HKS.out _ HS11.out) (fun hHeld=>?_)
  clear hK K
  refine wpAnyH_ready (rs:=[42]) (by kernel_rfl) (by simp) ?_
  refine AllReadyH.cons rfl (fun K hK=>?_) AllReadyH.nil
  simp only [List.getElem_toArray,List.getElem_cons_succ,List.getElem_cons_zero]
  go_simp
  (have HX:=HS11.out;(with_reducible refine Calls.mono (same_true _ _ (Nat.le_refl _) qy qz) ?_);rintro e u12 ⟨rfl,hb12⟩;have HS12:=hide (below_then HX hb12);clear HX)
  go_wp2_with fail
  refine hK.out _ _ (HKS.out _ HS12.out) (fun hHeld=>?_)
  clear hK K
  refine takeTQ (i:=43) (t:=91) (v:=?_) rfl (by kernel_rfl) (by kernel_rfl) (by kernel_rfl) (fun _ _ _ h=>h) rfl (by rfl) ?_ hHeld ?_
  rotate_left 1
  · intro w hSw;(try dsimp only at hSw);go_simp;with_reducible rfl
  simp only [List.setIfInBounds_toArray,List.set_cons_zero,List.set_cons_succ]
  refine takeTQ (i:=44) (t:=2) (v:=?_) rfl (by kernel_rfl) (by kernel_rfl) (by kernel_rfl) (fun _ _ _ h=>h) rfl (by rfl) ?_ hHeld ?_
  rotate_left 1
  · intro w hSw;(try dsimp only at hSw);go_simp;with_reducible rfl
  simp only [List.setIfInBounds_toArray,List.set_cons_zero,List.set_cons_succ]
  refine wpAnyH_done (by kernel_rfl) ?_ _
  go_wp2_with fail
  go_ret
  exact ⟨rfl,below_then HT8.out HS12.out⟩
end Go.Proofs.YtafhhemojdblpaaGreat
