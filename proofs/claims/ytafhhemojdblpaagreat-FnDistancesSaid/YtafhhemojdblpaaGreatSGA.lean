/-
  The texts SegA, SegA2, put together; each has its own heading below. No condition of ours.
-/
import Derived.Test.YtafhhemojdblpaaGreatSegS
import Derived.Test.YtafhhemojdblpaaGreatPJ
import Derived.Deep.RegionHeld3
import Derived.Deep.CutRange
import Derived.Sort.AtCall
/-
  The program's segments: sides of points, exactly: wayTo, sideOfLine.
-/
namespace Go.Proofs.YtafhhemojdblpaaGreat
open Go.RowKit
set_option linter.unusedVariables false
def wayX (T U:Int × Int × Int):Int:=U.1 * T.2.2 - T.1 * U.2.2
def wayY (T U:Int × Int × Int):Int:=U.2.1 * T.2.2 - T.2.1 * U.2.2
theorem wayX_sz {T U:Int × Int × Int} (h:SzC T) (k:SzC U):Sz 97 (wayX T U):=(k.1.mul h.2.2).sub (h.1.mul k.2.2)
theorem wayY_sz {T U:Int × Int × Int} (h:SzC T) (k:SzC U):Sz 97 (wayY T U):=(k.2.1.mul h.2.2).sub (h.2.1.mul k.2.2)
/-- two signed numbers handed back -/
def WayRes (TI:TypeId) (w w':World) (e:Ending) (x y:Int):Prop :=
 ∃ x0 x1 y0 y1 l1 h1 l2 h2,e=.returned (.tuple #[.agg #[x0,x1],.agg #[y0,y1]])∧SOwn w' l1 h1 TI x0 x1 x∧SOwn w' l2 h2 TI y0 y1 y∧w.heap.size≤l1∧w.heap.size≤l2∧h1≤w'.heap.size∧h2≤w'.heap.size∧Below w.heap.size w w'
theorem SOwn.set2 {w:World} {lo hi g:Nat} {E:TypeId} {v b x y:Value} {z:Int} (h:SOwn w lo hi E v b z) (hg:g < lo ∨ hi≤g):SOwn ((w.setCell ⟨g,0,none⟩ x).setCell ⟨g,1,none⟩ y) lo hi E v b z:=(h.setv hg 0 x).setv hg 1 y
theorem Box.setv2 {w:World} {g g':Nat} {E:TypeId} {cs:Array Value} (h:Box w g E cs) (hg:g ≠ g') (x y:Value):Box ((w.setCell ⟨g',0,none⟩ x).setCell ⟨g',1,none⟩ y) g E cs:=(h.setv hg 0 x).setv hg 1 y
theorem way_end {w W:World} {g g' l1 h1 l2 h2:Nat} {E F:TypeId} {x0 x1 y0 y1:Value} {X Y:Int} (k:Box W g E #[x0,x1]) (k':Box W g' E #[y0,y1]) (o:SOwn W l1 h1 F x0 x1 X) (o':SOwn W l2 h2 F y0 y1 Y) (hb:Below w.heap.size w W) (hg:w.heap.size≤g) (hg':w.heap.size≤g') (hne:g ≠ g') (d1:(g < l1 ∨ h1≤g)∧(g' < l1 ∨ h1≤g')) (d2:(g < l2 ∨ h2≤g)∧(g' < l2 ∨ h2≤g')) (b1:w.heap.size≤l1∧h1≤W.heap.size) (b2:w.heap.size≤l2∧h2≤W.heap.size) :
 ∃ W',W'=((((W.setCell ⟨g,0,none⟩ x0).setCell ⟨g,1,none⟩ x1).setCell ⟨g',0,none⟩ y0).setCell ⟨g',1,none⟩ y1)∧Box W' g E #[x0,x1]∧Box W' g' E #[y0,y1]∧SOwn W' l1 h1 F x0 x1 X∧SOwn W' l2 h2 F y0 y1 Y∧Below w.heap.size w W'∧W'.heap.size=W.heap.size :=
 ⟨_,rfl,(k.set2 x0 x1).setv2 hne _ _,(k'.setv2 (Ne.symm hne) _ _).set2 y0 y1,(o.set2 d1.1).set2 d1.2,(o'.set2 d2.1).set2 d2.2,below_set2 (below_set2 hb hg _ _) hg' _ _,by simp only [setCell_size]⟩
/-- two variables that hold signed numbers -/
def TwoS (w wx:World) (sx sy:Value) (T:TypeId) (x0 x1 y0 y1:Value):Prop:=∃ g h:Nat,sx=.pointer (some ⟨g,0,none⟩)∧sy=.pointer (some ⟨h,0,none⟩)∧Box wx g T #[x0,x1]∧Box wx h T #[y0,y1]∧Below w.heap.size w wx∧w.heap.size≤g∧w.heap.size≤h
set_option maxRecDepth 100000 in
set_option maxHeartbeats 6400000 in
theorem impl_wayTo (w:World) (B:Nat) (hB:B≤w.heap.size) {p0 p1 p2 p3 p4 p5:Value} {pZ:Int × Int × Int} (hp:CIn w B p0 p1 p2 p3 p4 p5 pZ) {q0 q1 q2 q3 q4 q5:Value} {qZ:Int × Int × Int} (hq:CIn w B q0 q1 q2 q3 q4 q5 qZ) (kp:SzC pZ) (kq:SzC qZ) :
 Calls Tryz.prog 139 #[.agg #[p0,p1,p2,p3,p4,p5],.agg #[q0,q1,q2,q3,q4,q5]] w fun e w'=>WayRes 3 w w' e (wayX pZ qZ) (wayY pZ qZ):=by
 have Hp1:=hide (show Sz 48 pZ.1 from kp.1)
 have Np1:=hide (show Sz 900 pZ.1 from Sz.mono kp.1 (by omega))
 have Hp2:=hide (show Sz 48 pZ.2.1 from kp.2.1)
 have Np2:=hide (show Sz 900 pZ.2.1 from Sz.mono kp.2.1 (by omega))
 have Hp3:=hide (show Sz 48 pZ.2.2 from kp.2.2)
 have Np3:=hide (show Sz 900 pZ.2.2 from Sz.mono kp.2.2 (by omega))
 have Hq1:=hide (show Sz 48 qZ.1 from kq.1)
 have Nq1:=hide (show Sz 900 qZ.1 from Sz.mono kq.1 (by omega))
 have Hq2:=hide (show Sz 48 qZ.2.1 from kq.2.1)
 have Nq2:=hide (show Sz 900 qZ.2.1 from Sz.mono kq.2.1 (by omega))
 have Hq3:=hide (show Sz 48 qZ.2.2 from kq.2.2)
 have Nq3:=hide (show Sz 900 qZ.2.2 from Sz.mono kq.2.2 (by omega))
 clear kp kq
 obtain ⟨W0,hW0⟩:∃ W0,W0=((((w.alloc (.cells #[p0,p1,p2,p3,p4,p5] 76)).alloc (.cells #[q0,q1,q2,q3,q4,q5] 76)).alloc (.cells #[.slice none 0 0,.bool false] 101)).alloc (.cells #[.slice none 0 0,.bool false] 101)):=⟨_,rfl⟩
 have hT0:Below w.heap.size w W0:=by rw [hW0];exact below_alloc (below_alloc (below_alloc (below_new _ _) _) _) _
 have kp:Box W0 (w.heap.size) 76 #[p0,p1,p2,p3,p4,p5]:=by rw [hW0];exact (((Box.last _ _ _ rfl).alloc _).alloc _).alloc _
 have kq:Box W0 (w.heap.size+1) 76 #[q0,q1,q2,q3,q4,q5]:=by rw [hW0];exact ((Box.last _ _ _ (alloc_size _ _).symm).alloc _).alloc _
 have kr:Box W0 (w.heap.size+2) 101 #[.slice none 0 0,.bool false]:=by rw [hW0];exact (Box.last _ _ _ (by rw [alloc_size,alloc_size])).alloc _
 have ko:Box W0 (w.heap.size+3) 101 #[.slice none 0 0,.bool false]:=by rw [hW0];exact Box.last _ _ _ (by rw [alloc_size,alloc_size,alloc_size])
 have hs0:W0.heap.size=w.heap.size+4:=by rw [hW0,alloc_size,alloc_size,alloc_size,alloc_size]
 have hp:=hp.below (hT0.mono hB)
 have hq:=hq.below (hT0.mono hB)
 go_enter Tryz.func139,Tryz.ntmps139
 go_upto_region 1 with fail
 rw [←hW0]
 clear hW0
 obtain ⟨pb,pA,pn,pc,pyb,pyA,pyn,pyc,pzb,pzA,pzn,pzc,rfl,rfl,rfl,rfl,rfl,rfl⟩:=hp.cut
 obtain ⟨qb,qA,qn,qc,qyb,qyA,qyn,qyc,qzb,qzA,qzn,qzc,rfl,rfl,rfl,rfl,rfl,rfl⟩:=hq.cut
 have HBp:=hide kp
 have HBq:=hide kq
 have HS0:Hid (Below W0.heap.size W0 W0.drew):=(Below.refl _ _).drew
 have HKS:=hide (fun (W:World) (hq:Below W0.heap.size W0 W)=>(⟨(HBp.out.below hq HBp.out.lt).cell 4,(HBp.out.below hq HBp.out.lt).cell 5,(HBq.out.below hq HBq.out.lt).cell 4,(HBq.out.below hq HBq.out.lt).cell 5⟩:W.cell? ⟨w.heap.size,4,none⟩=some (.bool pzb)∧W.cell? ⟨w.heap.size,5,none⟩=some (.slice pzA pzn pzc)∧W.cell? ⟨w.heap.size+1,4,none⟩=some (.bool qzb)∧W.cell? ⟨w.heap.size+1,5,none⟩=some (.slice qzA qzn qzc)))
 have HC1:=hide (fun (W:World)=>impl_signedOf_w W pzb pzA pzn pzc)
 have HC2:=hide (fun (W:World)=>impl_signedOf_w W qzb qzA qzn qzc)
 obtain ⟨yp0,yp1,yp2,yp3,yp4,yp5⟩:=kp.cells6
 obtain ⟨yq0,yq1,yq2,yq3,yq4,yq5⟩:=kq.cells6
 have Ehs0:=hide hs0
 clear hs0
 go_cut [6,7] from 8 to 37 (fun sx sy wx=>TwoS W0 wx sx sy 101 (.slice pzA pzn pzc) (.bool pzb) (.slice qzA qzn qzc) (.bool qzb))
 case first =>
  go_region_held3 (fun w'=>w'.cell? ⟨w.heap.size,4,none⟩=some (.bool pzb)∧w'.cell? ⟨w.heap.size,5,none⟩=some (.slice pzA pzn pzc)∧w'.cell? ⟨w.heap.size+1,4,none⟩=some (.bool qzb)∧w'.cell? ⟨w.heap.size+1,5,none⟩=some (.slice qzA qzn qzc))
   (first | (refine HKS.out _ ?_;repeat (first | (with_reducible exact Below.refl _ _) | (with_reducible refine Below.drew ?_) | (with_reducible refine below_alloc ?_ _))))
   (first
     | (go_at_call_has 76 pzA;refine (HC1.out _).mono ?_;rintro e w1 ⟨rfl,rfl⟩)
     | (go_at_call_has 76 qzA;refine (HC2.out _).mono ?_;rintro e w1 ⟨rfl,rfl⟩))
  all_goals
   go_wp2_with fail
   go_meet
   case rel =>
    refine ⟨_,_,rfl,rfl,?_,?_,?_,by omega,by omega⟩
    · refine Box.drew ?_
      repeat (first | (with_reducible exact Box.last _ _ _ (by first | omega | (simp only [alloc_size];done) | (simp only [alloc_size];omega))) | (with_reducible refine Box.alloc ?_ _))
    · refine Box.drew ?_
      repeat (first | (with_reducible exact Box.last _ _ _ (by first | omega | (simp only [alloc_size];done) | (simp only [alloc_size];omega))) | (with_reducible refine Box.alloc ?_ _))
    · repeat (first | (with_reducible exact Below.refl _ _) | (with_reducible refine Below.drew ?_) | (with_reducible refine below_alloc ?_ _))
 case rest =>
  have hs0:=Ehs0.out
  clear Ehs0
  obtain ⟨gs,gt,rfl,rfl,ks,kt,hb1,hgs,hgt⟩:=hcut
  obtain ⟨w1,hw1⟩:∃ xw,xw=wc:=⟨_,rfl⟩
  subst hw1
  clear HKS HS0 HBp HBq HC1 HC2
  clear yp0 yp1 yp2 yp3 yp4 yp5 yq0 yq1 yq2 yq3 yq4 yq5
  have hs1:=hb1.size
  have hT1:=below_then hT0 hb1
  have kp:=kp.below hb1 kp.lt
  have kq:=kq.below hb1 kq.lt
  have kr:=kr.below hb1 kr.lt
  have ko:=ko.below hb1 ko.lt
  have hp:=hp.below (hb1.mono (by omega))
  have hq:=hq.below (hb1.mono (by omega))
  clear hT0
  clear hb1
  have lks:=ks.lt
  have lkt:=kt.lt
  go_upto_region 2 with fail
  have HC1:=hide (fun (W:World) (h:Below w1.heap.size w1 W)=>signedS W B (by have:=h.size;omega) (hq.s1.below (h.mono (by omega))))
  have HC2:=hide (fun (W:World) (h:Below w1.heap.size w1 W)=>(hp.s3.below (h.mono (by omega)) |>.wider (show B≤W.heap.size by have:=h.size;omega)))
  have HC3:=hide (fun (W:World) (h:Below w1.heap.size w1 W)=>signedS W B (by have:=h.size;omega) (hp.s1.below (h.mono (by omega))))
  have HC4:=hide (fun (W:World) (h:Below w1.heap.size w1 W)=>(hq.s3.below (h.mono (by omega)) |>.wider (show B≤W.heap.size by have:=h.size;omega)))
  have M1:=hide (show Sz 96 (qZ.1 * pZ.2.2) from Hq1.out.mul Hp3.out)
  have M2:=hide (show Sz 96 (pZ.1 * qZ.2.2) from Hp1.out.mul Hq3.out)
  have M3:=hide (show Sz 900 (qZ.1 * pZ.2.2) from M1.out.mono (by omega))
  have M4:=hide (show Sz 900 (pZ.1 * qZ.2.2) from M2.out.mono (by omega))
  have F1:=hide (show Sz 96 (qZ.1 * pZ.2.2)∧96≤1000000 from ⟨M1.out,by omega⟩)
  have F2:=hide (show Sz 96 (pZ.1 * qZ.2.2)∧96≤1000000 from ⟨M2.out,by omega⟩)
  have Ehs0:=hide hs0
  clear hs0
  have HBp:=hide kp
  have HBq:=hide kq
  have HBs:=hide ks
  have HBt:=hide kt
  have HBr:=hide kr
  have HS0:Hid (Below w1.heap.size w1 w1.drew):=(Below.refl _ _).drew
  have HKS:=hide (fun (W:World) (hq:Below w1.heap.size w1 W)=>(⟨(HBp.out.below hq HBp.out.lt).cell 0,(HBp.out.below hq HBp.out.lt).cell 1,(HBp.out.below hq HBp.out.lt).cell 2,(HBp.out.below hq HBp.out.lt).cell 3,(HBp.out.below hq HBp.out.lt).cell 4,(HBp.out.below hq HBp.out.lt).cell 5,(HBq.out.below hq HBq.out.lt).cell 0,(HBq.out.below hq HBq.out.lt).cell 1,(HBq.out.below hq HBq.out.lt).cell 2,(HBq.out.below hq HBq.out.lt).cell 3,(HBq.out.below hq HBq.out.lt).cell 4,(HBq.out.below hq HBq.out.lt).cell 5,(HBs.out.below hq HBs.out.lt).cell 0,(HBs.out.below hq HBs.out.lt).cell 1,(HBt.out.below hq HBt.out.lt).cell 0,(HBt.out.below hq HBt.out.lt).cell 1⟩:W.cell? ⟨w.heap.size,0,none⟩=some (.bool pb)∧W.cell? ⟨w.heap.size,1,none⟩=some (.slice pA pn pc)∧W.cell? ⟨w.heap.size,2,none⟩=some (.bool pyb)∧W.cell? ⟨w.heap.size,3,none⟩=some (.slice pyA pyn pyc)∧W.cell? ⟨w.heap.size,4,none⟩=some (.bool pzb)∧W.cell? ⟨w.heap.size,5,none⟩=some (.slice pzA pzn pzc)∧W.cell? ⟨w.heap.size+1,0,none⟩=some (.bool qb)∧W.cell? ⟨w.heap.size+1,1,none⟩=some (.slice qA qn qc)∧W.cell? ⟨w.heap.size+1,2,none⟩=some (.bool qyb)∧W.cell? ⟨w.heap.size+1,3,none⟩=some (.slice qyA qyn qyc)∧W.cell? ⟨w.heap.size+1,4,none⟩=some (.bool qzb)∧W.cell? ⟨w.heap.size+1,5,none⟩=some (.slice qzA qzn qzc)∧W.cell? ⟨gs,0,none⟩=some (.slice pzA pzn pzc)∧W.cell? ⟨gs,1,none⟩=some (.bool pzb)∧W.cell? ⟨gt,0,none⟩=some (.slice qzA qzn qzc)∧W.cell? ⟨gt,1,none⟩=some (.bool qzb)))
  have hs0:=Ehs0.out
  have HKT:=hide (fun (W:World) (hq:Below w1.heap.size w1 W) (x0 x1:Value)=>(⟨(((HBp.out.below hq HBp.out.lt).setv (show w.heap.size ≠ w.heap.size+2 by omega) 0 x0).setv (show w.heap.size ≠ w.heap.size+2 by omega) 1 x1).cell 0,(((HBp.out.below hq HBp.out.lt).setv (show w.heap.size ≠ w.heap.size+2 by omega) 0 x0).setv (show w.heap.size ≠ w.heap.size+2 by omega) 1 x1).cell 1,(((HBp.out.below hq HBp.out.lt).setv (show w.heap.size ≠ w.heap.size+2 by omega) 0 x0).setv (show w.heap.size ≠ w.heap.size+2 by omega) 1 x1).cell 2,(((HBp.out.below hq HBp.out.lt).setv (show w.heap.size ≠ w.heap.size+2 by omega) 0 x0).setv (show w.heap.size ≠ w.heap.size+2 by omega) 1 x1).cell 3,(((HBp.out.below hq HBp.out.lt).setv (show w.heap.size ≠ w.heap.size+2 by omega) 0 x0).setv (show w.heap.size ≠ w.heap.size+2 by omega) 1 x1).cell 4,(((HBp.out.below hq HBp.out.lt).setv (show w.heap.size ≠ w.heap.size+2 by omega) 0 x0).setv (show w.heap.size ≠ w.heap.size+2 by omega) 1 x1).cell 5,(((HBq.out.below hq HBq.out.lt).setv (show w.heap.size+1 ≠ w.heap.size+2 by omega) 0 x0).setv (show w.heap.size+1 ≠ w.heap.size+2 by omega) 1 x1).cell 0,(((HBq.out.below hq HBq.out.lt).setv (show w.heap.size+1 ≠ w.heap.size+2 by omega) 0 x0).setv (show w.heap.size+1 ≠ w.heap.size+2 by omega) 1 x1).cell 1,(((HBq.out.below hq HBq.out.lt).setv (show w.heap.size+1 ≠ w.heap.size+2 by omega) 0 x0).setv (show w.heap.size+1 ≠ w.heap.size+2 by omega) 1 x1).cell 2,(((HBq.out.below hq HBq.out.lt).setv (show w.heap.size+1 ≠ w.heap.size+2 by omega) 0 x0).setv (show w.heap.size+1 ≠ w.heap.size+2 by omega) 1 x1).cell 3,(((HBq.out.below hq HBq.out.lt).setv (show w.heap.size+1 ≠ w.heap.size+2 by omega) 0 x0).setv (show w.heap.size+1 ≠ w.heap.size+2 by omega) 1 x1).cell 4,(((HBq.out.below hq HBq.out.lt).setv (show w.heap.size+1 ≠ w.heap.size+2 by omega) 0 x0).setv (show w.heap.size+1 ≠ w.heap.size+2 by omega) 1 x1).cell 5,(((HBs.out.below hq HBs.out.lt).setv (show gs ≠ w.heap.size+2 by omega) 0 x0).setv (show gs ≠ w.heap.size+2 by omega) 1 x1).cell 0,(((HBs.out.below hq HBs.out.lt).setv (show gs ≠ w.heap.size+2 by omega) 0 x0).setv (show gs ≠ w.heap.size+2 by omega) 1 x1).cell 1,(((HBt.out.below hq HBt.out.lt).setv (show gt ≠ w.heap.size+2 by omega) 0 x0).setv (show gt ≠ w.heap.size+2 by omega) 1 x1).cell 0,(((HBt.out.below hq HBt.out.lt).setv (show gt ≠ w.heap.size+2 by omega) 0 x0).setv (show gt ≠ w.heap.size+2 by omega) 1 x1).cell 1⟩:((W.setCell ⟨w.heap.size+2,0,none⟩ x0).setCell ⟨w.heap.size+2,1,none⟩ x1).cell? ⟨w.heap.size,0,none⟩=some (.bool pb)∧((W.setCell ⟨w.heap.size+2,0,none⟩ x0).setCell ⟨w.heap.size+2,1,none⟩ x1).cell? ⟨w.heap.size,1,none⟩=some (.slice pA pn pc)∧((W.setCell ⟨w.heap.size+2,0,none⟩ x0).setCell ⟨w.heap.size+2,1,none⟩ x1).cell? ⟨w.heap.size,2,none⟩=some (.bool pyb)∧((W.setCell ⟨w.heap.size+2,0,none⟩ x0).setCell ⟨w.heap.size+2,1,none⟩ x1).cell? ⟨w.heap.size,3,none⟩=some (.slice pyA pyn pyc)∧((W.setCell ⟨w.heap.size+2,0,none⟩ x0).setCell ⟨w.heap.size+2,1,none⟩ x1).cell? ⟨w.heap.size,4,none⟩=some (.bool pzb)∧((W.setCell ⟨w.heap.size+2,0,none⟩ x0).setCell ⟨w.heap.size+2,1,none⟩ x1).cell? ⟨w.heap.size,5,none⟩=some (.slice pzA pzn pzc)∧((W.setCell ⟨w.heap.size+2,0,none⟩ x0).setCell ⟨w.heap.size+2,1,none⟩ x1).cell? ⟨w.heap.size+1,0,none⟩=some (.bool qb)∧((W.setCell ⟨w.heap.size+2,0,none⟩ x0).setCell ⟨w.heap.size+2,1,none⟩ x1).cell? ⟨w.heap.size+1,1,none⟩=some (.slice qA qn qc)∧((W.setCell ⟨w.heap.size+2,0,none⟩ x0).setCell ⟨w.heap.size+2,1,none⟩ x1).cell? ⟨w.heap.size+1,2,none⟩=some (.bool qyb)∧((W.setCell ⟨w.heap.size+2,0,none⟩ x0).setCell ⟨w.heap.size+2,1,none⟩ x1).cell? ⟨w.heap.size+1,3,none⟩=some (.slice qyA qyn qyc)∧((W.setCell ⟨w.heap.size+2,0,none⟩ x0).setCell ⟨w.heap.size+2,1,none⟩ x1).cell? ⟨w.heap.size+1,4,none⟩=some (.bool qzb)∧((W.setCell ⟨w.heap.size+2,0,none⟩ x0).setCell ⟨w.heap.size+2,1,none⟩ x1).cell? ⟨w.heap.size+1,5,none⟩=some (.slice qzA qzn qzc)∧((W.setCell ⟨w.heap.size+2,0,none⟩ x0).setCell ⟨w.heap.size+2,1,none⟩ x1).cell? ⟨gs,0,none⟩=some (.slice pzA pzn pzc)∧((W.setCell ⟨w.heap.size+2,0,none⟩ x0).setCell ⟨w.heap.size+2,1,none⟩ x1).cell? ⟨gs,1,none⟩=some (.bool pzb)∧((W.setCell ⟨w.heap.size+2,0,none⟩ x0).setCell ⟨w.heap.size+2,1,none⟩ x1).cell? ⟨gt,0,none⟩=some (.slice qzA qzn qzc)∧((W.setCell ⟨w.heap.size+2,0,none⟩ x0).setCell ⟨w.heap.size+2,1,none⟩ x1).cell? ⟨gt,1,none⟩=some (.bool qzb)))
  clear hs0
  obtain ⟨yp0,yp1,yp2,yp3,yp4,yp5⟩:=kp.cells6
  obtain ⟨yq0,yq1,yq2,yq3,yq4,yq5⟩:=kq.cells6
  obtain ⟨ys0,ys1⟩:=ks.cells2
  obtain ⟨yt0,yt1⟩:=kt.cells2
  go_region_held3 (fun w'=>w'.cell? ⟨w.heap.size,0,none⟩=some (.bool pb)∧w'.cell? ⟨w.heap.size,1,none⟩=some (.slice pA pn pc)∧w'.cell? ⟨w.heap.size,2,none⟩=some (.bool pyb)∧w'.cell? ⟨w.heap.size,3,none⟩=some (.slice pyA pyn pyc)∧w'.cell? ⟨w.heap.size,4,none⟩=some (.bool pzb)∧w'.cell? ⟨w.heap.size,5,none⟩=some (.slice pzA pzn pzc)∧w'.cell? ⟨w.heap.size+1,0,none⟩=some (.bool qb)∧w'.cell? ⟨w.heap.size+1,1,none⟩=some (.slice qA qn qc)∧w'.cell? ⟨w.heap.size+1,2,none⟩=some (.bool qyb)∧w'.cell? ⟨w.heap.size+1,3,none⟩=some (.slice qyA qyn qyc)∧w'.cell? ⟨w.heap.size+1,4,none⟩=some (.bool qzb)∧w'.cell? ⟨w.heap.size+1,5,none⟩=some (.slice qzA qzn qzc)∧w'.cell? ⟨gs,0,none⟩=some (.slice pzA pzn pzc)∧w'.cell? ⟨gs,1,none⟩=some (.bool pzb)∧w'.cell? ⟨gt,0,none⟩=some (.slice qzA qzn qzc)∧w'.cell? ⟨gt,1,none⟩=some (.bool qzb))
   (first | (with_reducible exact HKT.out _ HS5.out _ _) | (with_reducible exact HKS.out _ HS5.out) | (with_reducible exact HKS.out _ HS4.out) | (with_reducible exact HKS.out _ HS3.out) | (with_reducible exact HKS.out _ HS2.out) | (with_reducible exact HKS.out _ HS1.out) | (with_reducible exact HKS.out _ HS0.out))
   (first
     | (go_at_call 118;have HX:=HS4.out;(with_reducible refine Calls.mono (minusS u4 u4.heap.size (Nat.le_refl _) ql qd M3.out M4.out) ?_);rintro e u5 ⟨z0,z1,rfl,oz,hb5⟩;obtain ⟨zA,zn,zc,zb,rfl,rfl⟩:=oz.cut;have qj:=qj.up hb5;have ql:=ql.up hb5;have qm:=qm.up hb5;have qd:=qd.up hb5;have hz5:u4.heap.size≤u5.heap.size:=hb5.size;have HS5:=hide (below_then HX hb5);clear HX;have kR:=HBr.out.below HS5.out HBr.out.lt;obtain ⟨tr0,tr1,fr0,fr1⟩:=kR.facts)
     | (go_at_call 119;have HX:=HS3.out;(with_reducible refine Calls.mono (timesS u3 u3.heap.size (Nat.le_refl _) qm (HC4.out _ HS3.out) Np1.out Nq3.out) ?_);rintro e u4 ⟨d0,d1,rfl,od,hb4⟩;obtain ⟨dA,dn,dc,db,rfl,rfl⟩:=od.cut;have qd:=od.in_ (F2.out) (Nat.le_refl _);have qj:=qj.up hb4;have ql:=ql.up hb4;have qm:=qm.up hb4;have hz4:u3.heap.size≤u4.heap.size:=hb4.size;have HS4:=hide (below_then HX hb4);clear HX)
     | (go_at_call 76;have HX:=HS2.out;(with_reducible refine Calls.mono (HC3.out _ HS2.out) ?_);rintro e u3 ⟨m0,m1,rfl,qm,hb3⟩;obtain ⟨mA,mn,mc,mb,rfl,rfl⟩:=qm.cut;have qj:=qj.up hb3;have ql:=ql.up hb3;have hz3:u2.heap.size≤u3.heap.size:=hb3.size;have HS3:=hide (below_then HX hb3);clear HX)
     | (go_at_call 119;have HX:=HS1.out;(with_reducible refine Calls.mono (timesS u1 u1.heap.size (Nat.le_refl _) qj (HC2.out _ HS1.out) Nq1.out Np3.out) ?_);rintro e u2 ⟨l0,l1,rfl,ol,hb2⟩;obtain ⟨lA,ln,lc,lb,rfl,rfl⟩:=ol.cut;have ql:=ol.in_ (F1.out) (Nat.le_refl _);have qj:=qj.up hb2;have hz2:u1.heap.size≤u2.heap.size:=hb2.size;have HS2:=hide (below_then HX hb2);clear HX)
     | (go_at_call 76;have HX:=HS0.out;(with_reducible refine Calls.mono (HC1.out _ HS0.out) ?_);rintro e u1 ⟨j0,j1,rfl,qj,hb1⟩;obtain ⟨jA,jn,jc,jb,rfl,rfl⟩:=qj.cut;have hz1:w1.heap.size≤u1.heap.size:=hb1.size;have HS1:=hide (below_then HX hb1);clear HX))
  have hs0:=Ehs0.out
  clear Ehs0
  have hbn:=HS5.out
  clear HS0 HKS HKT HS1 HS2 HS3 HS4 HS5 hb1 hb2 hb3 hb4 hb5 qj ql qm qd HBp HBq HBs HBt HBr
  clear ol
  clear od
  clear tr0 fr0 tr1 fr1
  clear yp0 yp1 yp2 yp3 yp4 yp5 yq0 yq1 yq2 yq3 yq4 yq5 ys0 ys1 yt0 yt1
  have hlo2:w1.heap.size≤u4.heap.size:=by omega
  obtain ⟨xA,hrn⟩:∃ y,y=zA:=⟨_,rfl⟩
  subst hrn
  obtain ⟨xn,hrn⟩:∃ y,y=zn:=⟨_,rfl⟩
  subst hrn
  obtain ⟨xc,hrn⟩:∃ y,y=zc:=⟨_,rfl⟩
  subst hrn
  obtain ⟨xb,hrn⟩:∃ y,y=zb:=⟨_,rfl⟩
  subst hrn
  obtain ⟨v2,hrn⟩:∃ y,y=u5:=⟨_,rfl⟩
  subst hrn
  obtain ⟨t2,hrn⟩:∃ y,y=u4:=⟨_,rfl⟩
  subst hrn
  clear hz1 hz2 hz3 hz4
  have kp:=kp.below hbn kp.lt
  have kq:=kq.below hbn kq.lt
  have kr:=kr.below hbn kr.lt
  have ko:=ko.below hbn ko.lt
  have ks:=ks.below hbn ks.lt
  have kt:=kt.below hbn kt.lt
  have hp:=hp.below (hbn.mono (by omega))
  have hq:=hq.below (hbn.mono (by omega))
  have hTn:=below_then hT1 hbn
  have hsn:=hbn.size
  obtain ⟨w2,hw2⟩:∃ xw,xw=((v2.setCell ⟨w.heap.size+2,0,none⟩ (.slice xA xn xc)).setCell ⟨w.heap.size+2,1,none⟩ (.bool xb)):=⟨_,rfl⟩
  have hbs:Below w.heap.size v2 w2:=by rw [hw2];exact ((Below.refl _ _).setCell (p:=⟨w.heap.size+2,0,none⟩) (show w.heap.size≤w.heap.size+2 by omega) _).setCell (p:=⟨w.heap.size+2,1,none⟩) (show w.heap.size≤w.heap.size+2 by omega) _
  have hs2:w2.heap.size=v2.heap.size:=by rw [hw2,setCell_size,setCell_size]
  have hT2:=hTn.trans hbs
  have kp:Box w2 (w.heap.size) 76 #[.bool pb,.slice pA pn pc,.bool pyb,.slice pyA pyn pyc,.bool pzb,.slice pzA pzn pzc]:=by rw [hw2];exact (kp.setv2 (show w.heap.size ≠ w.heap.size+2 by omega) _ _)
  have kq:Box w2 (w.heap.size+1) 76 #[.bool qb,.slice qA qn qc,.bool qyb,.slice qyA qyn qyc,.bool qzb,.slice qzA qzn qzc]:=by rw [hw2];exact (kq.setv2 (show w.heap.size+1 ≠ w.heap.size+2 by omega) _ _)
  have kr:Box w2 (w.heap.size+2) 101 #[.slice xA xn xc,.bool xb]:=by rw [hw2];exact (kR.set2 _ _)
  have ko:Box w2 (w.heap.size+3) 101 #[.slice none 0 0,.bool false]:=by rw [hw2];exact (ko.setv2 (show w.heap.size+3 ≠ w.heap.size+2 by omega) _ _)
  have ks:Box w2 (gs) 101 #[.slice pzA pzn pzc,.bool pzb]:=by rw [hw2];exact (ks.setv2 (show gs ≠ w.heap.size+2 by omega) _ _)
  have kt:Box w2 (gt) 101 #[.slice qzA qzn qzc,.bool qzb]:=by rw [hw2];exact (kt.setv2 (show gt ≠ w.heap.size+2 by omega) _ _)
  have hp:=hp.below (hbs.mono (by omega))
  have hq:=hq.below (hbs.mono (by omega))
  have ox:SOwn w2 (t2.heap.size) (v2.heap.size) 3 (.slice xA xn xc) (.bool xb) (wayX pZ qZ):=by rw [hw2];exact (show SOwn v2 (t2.heap.size) (v2.heap.size) 3 (.slice xA xn xc) (.bool xb) (wayX pZ qZ) from oz).set2 (.inl (by omega))
  clear hbn hTn hT1 hbs kR oz
  rw [←hw2]
  clear hw2
  clear HC1 HC2 HC3 HC4 M1 M2 M3 M4 F1 F2
  go_upto_region 3 with fail
  have HC1:=hide (fun (W:World) (h:Below w2.heap.size w2 W)=>signedS W B (by have:=h.size;omega) (hq.s2.below (h.mono (by omega))))
  have HC2:=hide (fun (W:World) (h:Below w2.heap.size w2 W)=>(hp.s3.below (h.mono (by omega)) |>.wider (show B≤W.heap.size by have:=h.size;omega)))
  have HC3:=hide (fun (W:World) (h:Below w2.heap.size w2 W)=>signedS W B (by have:=h.size;omega) (hp.s2.below (h.mono (by omega))))
  have HC4:=hide (fun (W:World) (h:Below w2.heap.size w2 W)=>(hq.s3.below (h.mono (by omega)) |>.wider (show B≤W.heap.size by have:=h.size;omega)))
  have M1:=hide (show Sz 96 (qZ.2.1 * pZ.2.2) from Hq2.out.mul Hp3.out)
  have M2:=hide (show Sz 96 (pZ.2.1 * qZ.2.2) from Hp2.out.mul Hq3.out)
  have M3:=hide (show Sz 900 (qZ.2.1 * pZ.2.2) from M1.out.mono (by omega))
  have M4:=hide (show Sz 900 (pZ.2.1 * qZ.2.2) from M2.out.mono (by omega))
  have F1:=hide (show Sz 96 (qZ.2.1 * pZ.2.2)∧96≤1000000 from ⟨M1.out,by omega⟩)
  have F2:=hide (show Sz 96 (pZ.2.1 * qZ.2.2)∧96≤1000000 from ⟨M2.out,by omega⟩)
  have Ehs0:=hide hs0
  clear hs0
  have HBp:=hide kp
  have HBq:=hide kq
  have HBs:=hide ks
  have HBt:=hide kt
  have HBo:=hide ko
  have HS0:Hid (Below w2.heap.size w2 w2.drew):=(Below.refl _ _).drew
  have HKS:=hide (fun (W:World) (hq:Below w2.heap.size w2 W)=>(⟨(HBp.out.below hq HBp.out.lt).cell 0,(HBp.out.below hq HBp.out.lt).cell 1,(HBp.out.below hq HBp.out.lt).cell 2,(HBp.out.below hq HBp.out.lt).cell 3,(HBp.out.below hq HBp.out.lt).cell 4,(HBp.out.below hq HBp.out.lt).cell 5,(HBq.out.below hq HBq.out.lt).cell 0,(HBq.out.below hq HBq.out.lt).cell 1,(HBq.out.below hq HBq.out.lt).cell 2,(HBq.out.below hq HBq.out.lt).cell 3,(HBq.out.below hq HBq.out.lt).cell 4,(HBq.out.below hq HBq.out.lt).cell 5,(HBs.out.below hq HBs.out.lt).cell 0,(HBs.out.below hq HBs.out.lt).cell 1,(HBt.out.below hq HBt.out.lt).cell 0,(HBt.out.below hq HBt.out.lt).cell 1⟩:W.cell? ⟨w.heap.size,0,none⟩=some (.bool pb)∧W.cell? ⟨w.heap.size,1,none⟩=some (.slice pA pn pc)∧W.cell? ⟨w.heap.size,2,none⟩=some (.bool pyb)∧W.cell? ⟨w.heap.size,3,none⟩=some (.slice pyA pyn pyc)∧W.cell? ⟨w.heap.size,4,none⟩=some (.bool pzb)∧W.cell? ⟨w.heap.size,5,none⟩=some (.slice pzA pzn pzc)∧W.cell? ⟨w.heap.size+1,0,none⟩=some (.bool qb)∧W.cell? ⟨w.heap.size+1,1,none⟩=some (.slice qA qn qc)∧W.cell? ⟨w.heap.size+1,2,none⟩=some (.bool qyb)∧W.cell? ⟨w.heap.size+1,3,none⟩=some (.slice qyA qyn qyc)∧W.cell? ⟨w.heap.size+1,4,none⟩=some (.bool qzb)∧W.cell? ⟨w.heap.size+1,5,none⟩=some (.slice qzA qzn qzc)∧W.cell? ⟨gs,0,none⟩=some (.slice pzA pzn pzc)∧W.cell? ⟨gs,1,none⟩=some (.bool pzb)∧W.cell? ⟨gt,0,none⟩=some (.slice qzA qzn qzc)∧W.cell? ⟨gt,1,none⟩=some (.bool qzb)))
  have hs0:=Ehs0.out
  have HKT:=hide (fun (W:World) (hq:Below w2.heap.size w2 W) (x0 x1:Value)=>(⟨(((HBp.out.below hq HBp.out.lt).setv (show w.heap.size ≠ w.heap.size+3 by omega) 0 x0).setv (show w.heap.size ≠ w.heap.size+3 by omega) 1 x1).cell 0,(((HBp.out.below hq HBp.out.lt).setv (show w.heap.size ≠ w.heap.size+3 by omega) 0 x0).setv (show w.heap.size ≠ w.heap.size+3 by omega) 1 x1).cell 1,(((HBp.out.below hq HBp.out.lt).setv (show w.heap.size ≠ w.heap.size+3 by omega) 0 x0).setv (show w.heap.size ≠ w.heap.size+3 by omega) 1 x1).cell 2,(((HBp.out.below hq HBp.out.lt).setv (show w.heap.size ≠ w.heap.size+3 by omega) 0 x0).setv (show w.heap.size ≠ w.heap.size+3 by omega) 1 x1).cell 3,(((HBp.out.below hq HBp.out.lt).setv (show w.heap.size ≠ w.heap.size+3 by omega) 0 x0).setv (show w.heap.size ≠ w.heap.size+3 by omega) 1 x1).cell 4,(((HBp.out.below hq HBp.out.lt).setv (show w.heap.size ≠ w.heap.size+3 by omega) 0 x0).setv (show w.heap.size ≠ w.heap.size+3 by omega) 1 x1).cell 5,(((HBq.out.below hq HBq.out.lt).setv (show w.heap.size+1 ≠ w.heap.size+3 by omega) 0 x0).setv (show w.heap.size+1 ≠ w.heap.size+3 by omega) 1 x1).cell 0,(((HBq.out.below hq HBq.out.lt).setv (show w.heap.size+1 ≠ w.heap.size+3 by omega) 0 x0).setv (show w.heap.size+1 ≠ w.heap.size+3 by omega) 1 x1).cell 1,(((HBq.out.below hq HBq.out.lt).setv (show w.heap.size+1 ≠ w.heap.size+3 by omega) 0 x0).setv (show w.heap.size+1 ≠ w.heap.size+3 by omega) 1 x1).cell 2,(((HBq.out.below hq HBq.out.lt).setv (show w.heap.size+1 ≠ w.heap.size+3 by omega) 0 x0).setv (show w.heap.size+1 ≠ w.heap.size+3 by omega) 1 x1).cell 3,(((HBq.out.below hq HBq.out.lt).setv (show w.heap.size+1 ≠ w.heap.size+3 by omega) 0 x0).setv (show w.heap.size+1 ≠ w.heap.size+3 by omega) 1 x1).cell 4,(((HBq.out.below hq HBq.out.lt).setv (show w.heap.size+1 ≠ w.heap.size+3 by omega) 0 x0).setv (show w.heap.size+1 ≠ w.heap.size+3 by omega) 1 x1).cell 5,(((HBs.out.below hq HBs.out.lt).setv (show gs ≠ w.heap.size+3 by omega) 0 x0).setv (show gs ≠ w.heap.size+3 by omega) 1 x1).cell 0,(((HBs.out.below hq HBs.out.lt).setv (show gs ≠ w.heap.size+3 by omega) 0 x0).setv (show gs ≠ w.heap.size+3 by omega) 1 x1).cell 1,(((HBt.out.below hq HBt.out.lt).setv (show gt ≠ w.heap.size+3 by omega) 0 x0).setv (show gt ≠ w.heap.size+3 by omega) 1 x1).cell 0,(((HBt.out.below hq HBt.out.lt).setv (show gt ≠ w.heap.size+3 by omega) 0 x0).setv (show gt ≠ w.heap.size+3 by omega) 1 x1).cell 1⟩:((W.setCell ⟨w.heap.size+3,0,none⟩ x0).setCell ⟨w.heap.size+3,1,none⟩ x1).cell? ⟨w.heap.size,0,none⟩=some (.bool pb)∧((W.setCell ⟨w.heap.size+3,0,none⟩ x0).setCell ⟨w.heap.size+3,1,none⟩ x1).cell? ⟨w.heap.size,1,none⟩=some (.slice pA pn pc)∧((W.setCell ⟨w.heap.size+3,0,none⟩ x0).setCell ⟨w.heap.size+3,1,none⟩ x1).cell? ⟨w.heap.size,2,none⟩=some (.bool pyb)∧((W.setCell ⟨w.heap.size+3,0,none⟩ x0).setCell ⟨w.heap.size+3,1,none⟩ x1).cell? ⟨w.heap.size,3,none⟩=some (.slice pyA pyn pyc)∧((W.setCell ⟨w.heap.size+3,0,none⟩ x0).setCell ⟨w.heap.size+3,1,none⟩ x1).cell? ⟨w.heap.size,4,none⟩=some (.bool pzb)∧((W.setCell ⟨w.heap.size+3,0,none⟩ x0).setCell ⟨w.heap.size+3,1,none⟩ x1).cell? ⟨w.heap.size,5,none⟩=some (.slice pzA pzn pzc)∧((W.setCell ⟨w.heap.size+3,0,none⟩ x0).setCell ⟨w.heap.size+3,1,none⟩ x1).cell? ⟨w.heap.size+1,0,none⟩=some (.bool qb)∧((W.setCell ⟨w.heap.size+3,0,none⟩ x0).setCell ⟨w.heap.size+3,1,none⟩ x1).cell? ⟨w.heap.size+1,1,none⟩=some (.slice qA qn qc)∧((W.setCell ⟨w.heap.size+3,0,none⟩ x0).setCell ⟨w.heap.size+3,1,none⟩ x1).cell? ⟨w.heap.size+1,2,none⟩=some (.bool qyb)∧((W.setCell ⟨w.heap.size+3,0,none⟩ x0).setCell ⟨w.heap.size+3,1,none⟩ x1).cell? ⟨w.heap.size+1,3,none⟩=some (.slice qyA qyn qyc)∧((W.setCell ⟨w.heap.size+3,0,none⟩ x0).setCell ⟨w.heap.size+3,1,none⟩ x1).cell? ⟨w.heap.size+1,4,none⟩=some (.bool qzb)∧((W.setCell ⟨w.heap.size+3,0,none⟩ x0).setCell ⟨w.heap.size+3,1,none⟩ x1).cell? ⟨w.heap.size+1,5,none⟩=some (.slice qzA qzn qzc)∧((W.setCell ⟨w.heap.size+3,0,none⟩ x0).setCell ⟨w.heap.size+3,1,none⟩ x1).cell? ⟨gs,0,none⟩=some (.slice pzA pzn pzc)∧((W.setCell ⟨w.heap.size+3,0,none⟩ x0).setCell ⟨w.heap.size+3,1,none⟩ x1).cell? ⟨gs,1,none⟩=some (.bool pzb)∧((W.setCell ⟨w.heap.size+3,0,none⟩ x0).setCell ⟨w.heap.size+3,1,none⟩ x1).cell? ⟨gt,0,none⟩=some (.slice qzA qzn qzc)∧((W.setCell ⟨w.heap.size+3,0,none⟩ x0).setCell ⟨w.heap.size+3,1,none⟩ x1).cell? ⟨gt,1,none⟩=some (.bool qzb)))
  clear hs0
  obtain ⟨yp0,yp1,yp2,yp3,yp4,yp5⟩:=kp.cells6
  obtain ⟨yq0,yq1,yq2,yq3,yq4,yq5⟩:=kq.cells6
  obtain ⟨ys0,ys1⟩:=ks.cells2
  obtain ⟨yt0,yt1⟩:=kt.cells2
  go_region_held3 (fun w'=>w'.cell? ⟨w.heap.size,0,none⟩=some (.bool pb)∧w'.cell? ⟨w.heap.size,1,none⟩=some (.slice pA pn pc)∧w'.cell? ⟨w.heap.size,2,none⟩=some (.bool pyb)∧w'.cell? ⟨w.heap.size,3,none⟩=some (.slice pyA pyn pyc)∧w'.cell? ⟨w.heap.size,4,none⟩=some (.bool pzb)∧w'.cell? ⟨w.heap.size,5,none⟩=some (.slice pzA pzn pzc)∧w'.cell? ⟨w.heap.size+1,0,none⟩=some (.bool qb)∧w'.cell? ⟨w.heap.size+1,1,none⟩=some (.slice qA qn qc)∧w'.cell? ⟨w.heap.size+1,2,none⟩=some (.bool qyb)∧w'.cell? ⟨w.heap.size+1,3,none⟩=some (.slice qyA qyn qyc)∧w'.cell? ⟨w.heap.size+1,4,none⟩=some (.bool qzb)∧w'.cell? ⟨w.heap.size+1,5,none⟩=some (.slice qzA qzn qzc)∧w'.cell? ⟨gs,0,none⟩=some (.slice pzA pzn pzc)∧w'.cell? ⟨gs,1,none⟩=some (.bool pzb)∧w'.cell? ⟨gt,0,none⟩=some (.slice qzA qzn qzc)∧w'.cell? ⟨gt,1,none⟩=some (.bool qzb))
   (first | (with_reducible exact HKT.out _ HS5.out _ _) | (with_reducible exact HKS.out _ HS5.out) | (with_reducible exact HKS.out _ HS4.out) | (with_reducible exact HKS.out _ HS3.out) | (with_reducible exact HKS.out _ HS2.out) | (with_reducible exact HKS.out _ HS1.out) | (with_reducible exact HKS.out _ HS0.out))
   (first
     | (go_at_call 118;have HX:=HS4.out;(with_reducible refine Calls.mono (minusS u4 u4.heap.size (Nat.le_refl _) ql qd M3.out M4.out) ?_);rintro e u5 ⟨z0,z1,rfl,oz,hb5⟩;obtain ⟨zA,zn,zc,zb,rfl,rfl⟩:=oz.cut;have qj:=qj.up hb5;have ql:=ql.up hb5;have qm:=qm.up hb5;have qd:=qd.up hb5;have hz5:u4.heap.size≤u5.heap.size:=hb5.size;have HS5:=hide (below_then HX hb5);clear HX;have kR:=HBo.out.below HS5.out HBo.out.lt;obtain ⟨to0,to1,fo0,fo1⟩:=kR.facts)
     | (go_at_call 119;have HX:=HS3.out;(with_reducible refine Calls.mono (timesS u3 u3.heap.size (Nat.le_refl _) qm (HC4.out _ HS3.out) Np2.out Nq3.out) ?_);rintro e u4 ⟨d0,d1,rfl,od,hb4⟩;obtain ⟨dA,dn,dc,db,rfl,rfl⟩:=od.cut;have qd:=od.in_ (F2.out) (Nat.le_refl _);have qj:=qj.up hb4;have ql:=ql.up hb4;have qm:=qm.up hb4;have hz4:u3.heap.size≤u4.heap.size:=hb4.size;have HS4:=hide (below_then HX hb4);clear HX)
     | (go_at_call 76;have HX:=HS2.out;(with_reducible refine Calls.mono (HC3.out _ HS2.out) ?_);rintro e u3 ⟨m0,m1,rfl,qm,hb3⟩;obtain ⟨mA,mn,mc,mb,rfl,rfl⟩:=qm.cut;have qj:=qj.up hb3;have ql:=ql.up hb3;have hz3:u2.heap.size≤u3.heap.size:=hb3.size;have HS3:=hide (below_then HX hb3);clear HX)
     | (go_at_call 119;have HX:=HS1.out;(with_reducible refine Calls.mono (timesS u1 u1.heap.size (Nat.le_refl _) qj (HC2.out _ HS1.out) Nq2.out Np3.out) ?_);rintro e u2 ⟨l0,l1,rfl,ol,hb2⟩;obtain ⟨lA,ln,lc,lb,rfl,rfl⟩:=ol.cut;have ql:=ol.in_ (F1.out) (Nat.le_refl _);have qj:=qj.up hb2;have hz2:u1.heap.size≤u2.heap.size:=hb2.size;have HS2:=hide (below_then HX hb2);clear HX)
     | (go_at_call 76;have HX:=HS0.out;(with_reducible refine Calls.mono (HC1.out _ HS0.out) ?_);rintro e u1 ⟨j0,j1,rfl,qj,hb1⟩;obtain ⟨jA,jn,jc,jb,rfl,rfl⟩:=qj.cut;have hz1:w2.heap.size≤u1.heap.size:=hb1.size;have HS1:=hide (below_then HX hb1);clear HX))
  have hs0:=Ehs0.out
  clear Ehs0
  have hbn:=HS5.out
  clear HS0 HKS HKT HS1 HS2 HS3 HS4 HS5 hb1 hb2 hb3 hb4 hb5 qj ql qm qd HBp HBq HBs HBt HBo
  clear ol
  clear od
  clear to0 fo0 to1 fo1
  clear yp0 yp1 yp2 yp3 yp4 yp5 yq0 yq1 yq2 yq3 yq4 yq5 ys0 ys1 yt0 yt1
  have hlo3:w2.heap.size≤u4.heap.size:=by omega
  obtain ⟨yA,hrn⟩:∃ y,y=zA:=⟨_,rfl⟩
  subst hrn
  obtain ⟨yn,hrn⟩:∃ y,y=zn:=⟨_,rfl⟩
  subst hrn
  obtain ⟨yc,hrn⟩:∃ y,y=zc:=⟨_,rfl⟩
  subst hrn
  obtain ⟨yb,hrn⟩:∃ y,y=zb:=⟨_,rfl⟩
  subst hrn
  obtain ⟨v3,hrn⟩:∃ y,y=u5:=⟨_,rfl⟩
  subst hrn
  obtain ⟨t3,hrn⟩:∃ y,y=u4:=⟨_,rfl⟩
  subst hrn
  clear hz1 hz2 hz3 hz4
  have kp:=kp.below hbn kp.lt
  have kq:=kq.below hbn kq.lt
  have kr:=kr.below hbn kr.lt
  have ko:=ko.below hbn ko.lt
  have ks:=ks.below hbn ks.lt
  have kt:=kt.below hbn kt.lt
  have hp:=hp.below (hbn.mono (by omega))
  have hq:=hq.below (hbn.mono (by omega))
  have ox:=ox.below hbn (by omega)
  have hTn:=below_then hT2 hbn
  have hsn:=hbn.size
  obtain ⟨w3,hw3⟩:∃ xw,xw=((v3.setCell ⟨w.heap.size+3,0,none⟩ (.slice yA yn yc)).setCell ⟨w.heap.size+3,1,none⟩ (.bool yb)):=⟨_,rfl⟩
  have hbs:Below w.heap.size v3 w3:=by rw [hw3];exact ((Below.refl _ _).setCell (p:=⟨w.heap.size+3,0,none⟩) (show w.heap.size≤w.heap.size+3 by omega) _).setCell (p:=⟨w.heap.size+3,1,none⟩) (show w.heap.size≤w.heap.size+3 by omega) _
  have hs3:w3.heap.size=v3.heap.size:=by rw [hw3,setCell_size,setCell_size]
  have hT3:=hTn.trans hbs
  have kp:Box w3 (w.heap.size) 76 #[.bool pb,.slice pA pn pc,.bool pyb,.slice pyA pyn pyc,.bool pzb,.slice pzA pzn pzc]:=by rw [hw3];exact (kp.setv2 (show w.heap.size ≠ w.heap.size+3 by omega) _ _)
  have kq:Box w3 (w.heap.size+1) 76 #[.bool qb,.slice qA qn qc,.bool qyb,.slice qyA qyn qyc,.bool qzb,.slice qzA qzn qzc]:=by rw [hw3];exact (kq.setv2 (show w.heap.size+1 ≠ w.heap.size+3 by omega) _ _)
  have kr:Box w3 (w.heap.size+2) 101 #[.slice xA xn xc,.bool xb]:=by rw [hw3];exact (kr.setv2 (show w.heap.size+2 ≠ w.heap.size+3 by omega) _ _)
  have ko:Box w3 (w.heap.size+3) 101 #[.slice yA yn yc,.bool yb]:=by rw [hw3];exact (kR.set2 _ _)
  have ks:Box w3 (gs) 101 #[.slice pzA pzn pzc,.bool pzb]:=by rw [hw3];exact (ks.setv2 (show gs ≠ w.heap.size+3 by omega) _ _)
  have kt:Box w3 (gt) 101 #[.slice qzA qzn qzc,.bool qzb]:=by rw [hw3];exact (kt.setv2 (show gt ≠ w.heap.size+3 by omega) _ _)
  have hp:=hp.below (hbs.mono (by omega))
  have hq:=hq.below (hbs.mono (by omega))
  have ox:SOwn w3 (t2.heap.size) (v2.heap.size) 3 (.slice xA xn xc) (.bool xb) (wayX pZ qZ):=by rw [hw3];exact ox.set2 (.inl (by omega))
  have oy:SOwn w3 (t3.heap.size) (v3.heap.size) 3 (.slice yA yn yc) (.bool yb) (wayY pZ qZ):=by rw [hw3];exact (show SOwn v3 (t3.heap.size) (v3.heap.size) 3 (.slice yA yn yc) (.bool yb) (wayY pZ qZ) from oz).set2 (.inl (by omega))
  clear hbn hTn hT2 hbs kR oz
  rw [←hw3]
  clear hw3
  clear HC1 HC2 HC3 HC4 M1 M2 M3 M4 F1 F2
  clear hp hq kp kq ks kt
  obtain ⟨W',hW',g1,g2,g3,g4,g5,g6⟩:=way_end kr ko ox oy hT3 (by omega) (by omega) (by omega) ⟨.inl (by omega),.inl (by omega)⟩ ⟨.inl (by omega),.inl (by omega)⟩ ⟨by omega,by omega⟩ ⟨by omega,by omega⟩
  have HG:=hide (And.intro g1 (And.intro g2 (And.intro g3 (And.intro g4 (And.intro g5 g6)))))
  have HW':=hide hW'
  clear g1 g2 g3 g4 g5 g6 hW' ox oy
  obtain ⟨yr0,yr1,zr0,zr1⟩:=kr.facts
  obtain ⟨yo0,yo1,zo0,zo1⟩:=ko.facts
  clear kr ko
  go_upto_region 4 with fail
  go_region_with (fail)
  all_goals
   go_wp2_with fail
   first
   | (rw [←HW'.out]
      refine bodyPost_ret (results_cell_cell rfl _ _ (w.heap.size+2) (w.heap.size+3) _ _ #[.slice xA xn xc,.bool xb] #[.slice yA yn yc,.bool yb] (0,0) (0,0) _ rfl HG.out.1 rfl HG.out.2.1 Tryz.underlying101 rfl Tryz.sizeSigned Tryz.sizeSigned) rfl ?_
      exact ⟨_,_,_,_,_,_,_,_,rfl,HG.out.2.2.1,HG.out.2.2.2.1,by omega,by omega,by show _≤W'.heap.size;rw [HG.out.2.2.2.2.2];omega,by show _≤W'.heap.size;rw [HG.out.2.2.2.2.2];omega,HG.out.2.2.2.2.1.drew⟩)
end Go.Proofs.YtafhhemojdblpaaGreat
/-
  The program's segments: sides of points, exactly: sideOfLine.
-/
namespace Go.Proofs.YtafhhemojdblpaaGreat
open Go.RowKit
set_option linter.unusedVariables false
def crossS (T U V:Int × Int × Int):Int:=wayX T U * wayY T V - wayY T U * wayX T V
set_option maxRecDepth 100000 in
set_option maxHeartbeats 6400000 in
theorem impl_sideOfLine (w:World) (B:Nat) (hB:B≤w.heap.size) {p0 p1 p2 p3 p4 p5:Value} {pZ:Int × Int × Int} (hp:CIn w B p0 p1 p2 p3 p4 p5 pZ) {q0 q1 q2 q3 q4 q5:Value} {qZ:Int × Int × Int} (hq:CIn w B q0 q1 q2 q3 q4 q5 qZ) {m0 m1 m2 m3 m4 m5:Value} {mZ:Int × Int × Int} (hm:CIn w B m0 m1 m2 m3 m4 m5 mZ) (zp:SzC pZ) (zq:SzC qZ) (zm:SzC mZ) :
 Calls Tryz.prog 115 #[.agg #[p0,p1,p2,p3,p4,p5],.agg #[q0,q1,q2,q3,q4,q5],.agg #[m0,m1,m2,m3,m4,m5]] w fun e w'=>e=.returned (.int .i64 (cmpV (crossS pZ qZ mZ) 0))∧Below w.heap.size w w':=by
 have H1:=hide (show Sz 97 (wayX pZ qZ) from wayX_sz zp zq)
 have N1:=hide (show Sz 900 (wayX pZ qZ) from Sz.mono (wayX_sz zp zq) (by omega))
 have F1:=hide (show Sz 97 (wayX pZ qZ)∧97≤1000000 from ⟨wayX_sz zp zq,by omega⟩)
 have H2:=hide (show Sz 97 (wayY pZ qZ) from wayY_sz zp zq)
 have N2:=hide (show Sz 900 (wayY pZ qZ) from Sz.mono (wayY_sz zp zq) (by omega))
 have F2:=hide (show Sz 97 (wayY pZ qZ)∧97≤1000000 from ⟨wayY_sz zp zq,by omega⟩)
 have H3:=hide (show Sz 97 (wayX pZ mZ) from wayX_sz zp zm)
 have N3:=hide (show Sz 900 (wayX pZ mZ) from Sz.mono (wayX_sz zp zm) (by omega))
 have F3:=hide (show Sz 97 (wayX pZ mZ)∧97≤1000000 from ⟨wayX_sz zp zm,by omega⟩)
 have H4:=hide (show Sz 97 (wayY pZ mZ) from wayY_sz zp zm)
 have N4:=hide (show Sz 900 (wayY pZ mZ) from Sz.mono (wayY_sz zp zm) (by omega))
 have F4:=hide (show Sz 97 (wayY pZ mZ)∧97≤1000000 from ⟨wayY_sz zp zm,by omega⟩)
 have M1:=hide (show Sz 194 (wayX pZ qZ * wayY pZ mZ) from H1.out.mul H4.out)
 have M2:=hide (show Sz 194 (wayY pZ qZ * wayX pZ mZ) from H2.out.mul H3.out)
 have M3:=hide (show Sz 900 (wayX pZ qZ * wayY pZ mZ) from M1.out.mono (by omega))
 have M4:=hide (show Sz 900 (wayY pZ qZ * wayX pZ mZ) from M2.out.mono (by omega))
 have G1:=hide (show Sz 194 (wayX pZ qZ * wayY pZ mZ)∧194≤1000000 from ⟨M1.out,by omega⟩)
 have G2:=hide (show Sz 194 (wayY pZ qZ * wayX pZ mZ)∧194≤1000000 from ⟨M2.out,by omega⟩)
 have G3:=hide (show Sz 195 (crossS pZ qZ mZ)∧195≤1000000 from ⟨M1.out.sub M2.out,by omega⟩)
 obtain ⟨W0,hW0⟩:∃ W0,W0=(((w.alloc (.cells #[p0,p1,p2,p3,p4,p5] 76)).alloc (.cells #[q0,q1,q2,q3,q4,q5] 76)).alloc (.cells #[m0,m1,m2,m3,m4,m5] 76)):=⟨_,rfl⟩
 have hT0:Below w.heap.size w W0:=by rw [hW0];exact below_alloc (below_alloc (below_new _ _) _) _
 have kp:Box W0 (w.heap.size) 76 #[p0,p1,p2,p3,p4,p5]:=by rw [hW0];exact ((Box.last _ _ _ rfl).alloc _).alloc _
 have kq:Box W0 (w.heap.size+1) 76 #[q0,q1,q2,q3,q4,q5]:=by rw [hW0];exact (Box.last _ _ _ (alloc_size _ _).symm).alloc _
 have km:Box W0 (w.heap.size+2) 76 #[m0,m1,m2,m3,m4,m5]:=by rw [hW0];exact Box.last _ _ _ (by rw [alloc_size,alloc_size])
 have hs0:W0.heap.size=w.heap.size+3:=by rw [hW0,alloc_size,alloc_size,alloc_size]
 have hp:=hp.below (hT0.mono hB)
 have hq:=hq.below (hT0.mono hB)
 have hm:=hm.below (hT0.mono hB)
 go_enter Tryz.func115,Tryz.ntmps115
 go_upto_region 1 with fail
 rw [←hW0]
 clear hW0
 obtain ⟨pb,pA,pn,pc,pyb,pyA,pyn,pyc,pzb,pzA,pzn,pzc,rfl,rfl,rfl,rfl,rfl,rfl⟩:=hp.cut
 obtain ⟨qb,qA,qn,qc,qyb,qyA,qyn,qyc,qzb,qzA,qzn,qzc,rfl,rfl,rfl,rfl,rfl,rfl⟩:=hq.cut
 obtain ⟨mb,mA,mn,mc,myb,myA,myn,myc,mzb,mzA,mzn,mzc,rfl,rfl,rfl,rfl,rfl,rfl⟩:=hm.cut
 obtain ⟨yp0,yp1,yp2,yp3,yp4,yp5⟩:=kp.cells6
 obtain ⟨yq0,yq1,yq2,yq3,yq4,yq5⟩:=kq.cells6
 go_wp2_with fail
 refine (impl_wayTo W0 B (by omega) hp hq zp zq).mono ?_
 rintro e w1 ⟨fx0,fx1,fy0,fy1,lfx,hfxi,lfy,hfyi,rfl,ofx,ofy,glfx,glfy,ghfx,ghfy,hb1⟩
 clear yp0 yp1 yp2 yp3 yp4 yp5 yq0 yq1 yq2 yq3 yq4 yq5
 obtain ⟨fxA,fxn,fxc,fxb,rfl,rfl⟩:=ofx.cut
 obtain ⟨fyA,fyn,fyc,fyb,rfl,rfl⟩:=ofy.cut
 have hs1:=hb1.size
 have hT1:=below_then hT0 hb1
 have kp:=kp.below hb1 kp.lt
 have kq:=kq.below hb1 kq.lt
 have km:=km.below hb1 km.lt
 have hp:=hp.below (hb1.mono (by omega))
 have hq:=hq.below (hb1.mono (by omega))
 have hm:=hm.below (hb1.mono (by omega))
 clear hT0
 clear hb1
 obtain ⟨w2,hw2⟩:∃ xw,xw=((w1.alloc (.cells #[.slice fxA fxn fxc,.bool fxb] 101)).alloc (.cells #[.slice fyA fyn fyc,.bool fyb] 101)):=⟨_,rfl⟩
 have hb2:Below w1.heap.size w1 w2:=by rw [hw2];exact below_alloc (below_new _ _) _
 have hq2:w2.heap.size=w1.heap.size+2:=by rw [hw2,alloc_size,alloc_size]
 have kfx:Box w2 (w1.heap.size) 101 #[.slice fxA fxn fxc,.bool fxb]:=by rw [hw2];exact (Box.last _ _ _ (by omega)).alloc _
 have kfy:Box w2 (w1.heap.size+1) 101 #[.slice fyA fyn fyc,.bool fyb]:=by rw [hw2];exact Box.last _ _ _ (by rw [alloc_size];try omega)
 have hs2:=hb2.size
 have hT2:=below_then hT1 hb2
 have kp:=kp.below hb2 kp.lt
 have kq:=kq.below hb2 kq.lt
 have km:=km.below hb2 km.lt
 have hp:=hp.below (hb2.mono (by omega))
 have hq:=hq.below (hb2.mono (by omega))
 have hm:=hm.below (hb2.mono (by omega))
 have ofx:=ofx.below hb2 (by omega)
 have ofy:=ofy.below hb2 (by omega)
 clear hT1
 go_upto_region 2 with fail
 rw [←hw2]
 clear hw2 hb2
 obtain ⟨yp0,yp1,yp2,yp3,yp4,yp5⟩:=kp.cells6
 obtain ⟨ym0,ym1,ym2,ym3,ym4,ym5⟩:=km.cells6
 go_wp2_with fail
 refine (impl_wayTo w2 B (by omega) hp hm zp zm).mono ?_
 rintro e w3 ⟨sx0,sx1,sy0,sy1,lsx,hsxi,lsy,hsyi,rfl,osx,osy,glsx,glsy,ghsx,ghsy,hb3⟩
 clear yp0 yp1 yp2 yp3 yp4 yp5 ym0 ym1 ym2 ym3 ym4 ym5
 obtain ⟨sxA,sxn,sxc,sxb,rfl,rfl⟩:=osx.cut
 obtain ⟨syA,syn,syc,syb,rfl,rfl⟩:=osy.cut
 have hs3:=hb3.size
 have hT3:=below_then hT2 hb3
 have kp:=kp.below hb3 kp.lt
 have kq:=kq.below hb3 kq.lt
 have km:=km.below hb3 km.lt
 have kfx:=kfx.below hb3 kfx.lt
 have kfy:=kfy.below hb3 kfy.lt
 have hp:=hp.below (hb3.mono (by omega))
 have hq:=hq.below (hb3.mono (by omega))
 have hm:=hm.below (hb3.mono (by omega))
 have ofx:=ofx.below hb3 (by omega)
 have ofy:=ofy.below hb3 (by omega)
 clear hT2
 clear hb3
 obtain ⟨w4,hw4⟩:∃ xw,xw=((w3.alloc (.cells #[.slice sxA sxn sxc,.bool sxb] 101)).alloc (.cells #[.slice syA syn syc,.bool syb] 101)):=⟨_,rfl⟩
 have hb4:Below w3.heap.size w3 w4:=by rw [hw4];exact below_alloc (below_new _ _) _
 have hq4:w4.heap.size=w3.heap.size+2:=by rw [hw4,alloc_size,alloc_size]
 have ksx:Box w4 (w3.heap.size) 101 #[.slice sxA sxn sxc,.bool sxb]:=by rw [hw4];exact (Box.last _ _ _ (by omega)).alloc _
 have ksy:Box w4 (w3.heap.size+1) 101 #[.slice syA syn syc,.bool syb]:=by rw [hw4];exact Box.last _ _ _ (by rw [alloc_size];try omega)
 have hs4:=hb4.size
 have hT4:=below_then hT3 hb4
 have kp:=kp.below hb4 kp.lt
 have kq:=kq.below hb4 kq.lt
 have km:=km.below hb4 km.lt
 have kfx:=kfx.below hb4 kfx.lt
 have kfy:=kfy.below hb4 kfy.lt
 have hp:=hp.below (hb4.mono (by omega))
 have hq:=hq.below (hb4.mono (by omega))
 have hm:=hm.below (hb4.mono (by omega))
 have ofx:=ofx.below hb4 (by omega)
 have ofy:=ofy.below hb4 (by omega)
 have osx:=osx.below hb4 (by omega)
 have osy:=osy.below hb4 (by omega)
 clear hT3
 go_upto_region 3 with fail
 rw [←hw4]
 clear hw4 hb4
 have hfx:SIn w4 w4.heap.size (.slice fxA fxn fxc) (.bool fxb) _:=ofx.in_ F1.out (by omega)
 have hfy:SIn w4 w4.heap.size (.slice fyA fyn fyc) (.bool fyb) _:=ofy.in_ F2.out (by omega)
 have hsx:SIn w4 w4.heap.size (.slice sxA sxn sxc) (.bool sxb) _:=osx.in_ F3.out (by omega)
 have hsy:SIn w4 w4.heap.size (.slice syA syn syc) (.bool syb) _:=osy.in_ F4.out (by omega)
 have HC1:=hide (fun (W:World) (h:Below w4.heap.size w4 W)=>timesS W W.heap.size (Nat.le_refl _) ((hfx.below h).wider h.size) ((hsy.below h).wider h.size) N1.out N4.out)
 have HC2:=hide (fun (W:World) (h:Below w4.heap.size w4 W)=>timesS W W.heap.size (Nat.le_refl _) ((hfy.below h).wider h.size) ((hsx.below h).wider h.size) N2.out N3.out)
 clear hp hq hm kp kq km hfx ofx hfy ofy hsx osx hsy osy
 have HBfx:=hide kfx
 have HBfy:=hide kfy
 have HBsx:=hide ksx
 have HBsy:=hide ksy
 have HS0:Hid (Below w4.heap.size w4 w4.drew):=(Below.refl _ _).drew
 have HKS:=hide (fun (W:World) (hq:Below w4.heap.size w4 W)=>(⟨(HBfx.out.below hq HBfx.out.lt).cell 0,(HBfx.out.below hq HBfx.out.lt).cell 1,(HBfy.out.below hq HBfy.out.lt).cell 0,(HBfy.out.below hq HBfy.out.lt).cell 1,(HBsx.out.below hq HBsx.out.lt).cell 0,(HBsx.out.below hq HBsx.out.lt).cell 1,(HBsy.out.below hq HBsy.out.lt).cell 0,(HBsy.out.below hq HBsy.out.lt).cell 1⟩:W.cell? ⟨w1.heap.size,0,none⟩=some (.slice fxA fxn fxc)∧W.cell? ⟨w1.heap.size,1,none⟩=some (.bool fxb)∧W.cell? ⟨w1.heap.size+1,0,none⟩=some (.slice fyA fyn fyc)∧W.cell? ⟨w1.heap.size+1,1,none⟩=some (.bool fyb)∧W.cell? ⟨w3.heap.size,0,none⟩=some (.slice sxA sxn sxc)∧W.cell? ⟨w3.heap.size,1,none⟩=some (.bool sxb)∧W.cell? ⟨w3.heap.size+1,0,none⟩=some (.slice syA syn syc)∧W.cell? ⟨w3.heap.size+1,1,none⟩=some (.bool syb)))
 obtain ⟨yfx0,yfx1⟩:=kfx.cells2
 obtain ⟨yfy0,yfy1⟩:=kfy.cells2
 obtain ⟨ysx0,ysx1⟩:=ksx.cells2
 obtain ⟨ysy0,ysy1⟩:=ksy.cells2
 go_region_held3 (fun w'=>w'.cell? ⟨w1.heap.size,0,none⟩=some (.slice fxA fxn fxc)∧w'.cell? ⟨w1.heap.size,1,none⟩=some (.bool fxb)∧w'.cell? ⟨w1.heap.size+1,0,none⟩=some (.slice fyA fyn fyc)∧w'.cell? ⟨w1.heap.size+1,1,none⟩=some (.bool fyb)∧w'.cell? ⟨w3.heap.size,0,none⟩=some (.slice sxA sxn sxc)∧w'.cell? ⟨w3.heap.size,1,none⟩=some (.bool sxb)∧w'.cell? ⟨w3.heap.size+1,0,none⟩=some (.slice syA syn syc)∧w'.cell? ⟨w3.heap.size+1,1,none⟩=some (.bool syb))
  (first | (with_reducible exact HKS.out _ HS4.out) | (with_reducible exact HKS.out _ HS3.out) | (with_reducible exact HKS.out _ HS2.out) | (with_reducible exact HKS.out _ HS1.out) | (with_reducible exact HKS.out _ HS0.out))
  (first
    | (go_at_call 140;have HX:=HS3.out;(with_reducible refine Calls.mono (signS u3 u3.heap.size (Nat.le_refl _) qz) ?_);rintro e u4 ⟨rfl,hb4⟩;have qj:=qj.up hb4;have ql:=ql.up hb4;have qz:=qz.up hb4;have hz4:u3.heap.size≤u4.heap.size:=hb4.size;have HS4:=hide (below_then HX hb4);clear HX;have hTT:=below_then hT4 HS4.out)
    | (go_at_call 118;have HX:=HS2.out;(with_reducible refine Calls.mono (minusS u2 u2.heap.size (Nat.le_refl _) qj ql M3.out M4.out) ?_);rintro e u3 ⟨z0,z1,rfl,oz,hb3⟩;obtain ⟨zA,zn,zc,zb,rfl,rfl⟩:=oz.cut;have qz:=oz.in_ (G3.out) (Nat.le_refl _);have qj:=qj.up hb3;have ql:=ql.up hb3;have hz3:u2.heap.size≤u3.heap.size:=hb3.size;have HS3:=hide (below_then HX hb3);clear HX)
    | (go_at_call 119;have HX:=HS1.out;(with_reducible refine Calls.mono (HC2.out _ HS1.out) ?_);rintro e u2 ⟨l0,l1,rfl,ol,hb2⟩;obtain ⟨lA,ln,lc,lb,rfl,rfl⟩:=ol.cut;have ql:=ol.in_ (G2.out) (Nat.le_refl _);have qj:=qj.up hb2;have hz2:u1.heap.size≤u2.heap.size:=hb2.size;have HS2:=hide (below_then HX hb2);clear HX)
    | (go_at_call 119;have HX:=HS0.out;(with_reducible refine Calls.mono (HC1.out _ HS0.out) ?_);rintro e u1 ⟨j0,j1,rfl,oj,hb1⟩;obtain ⟨jA,jn,jc,jb,rfl,rfl⟩:=oj.cut;have qj:=oj.in_ (G1.out) (Nat.le_refl _);have hz1:w4.heap.size≤u1.heap.size:=hb1.size;have HS1:=hide (below_then HX hb1);clear HX))
 go_wp2_with fail
 go_ret
 exact ⟨rfl,hTT⟩
end Go.Proofs.YtafhhemojdblpaaGreat
