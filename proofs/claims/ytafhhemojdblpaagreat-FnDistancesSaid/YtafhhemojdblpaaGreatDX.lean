/-
  The texts SegX, SegX2, SegX3, put together; each has its own heading below. No condition of ours.
-/
import Derived.Test.YtafhhemojdblpaaGreatSegF2
import Derived.Test.YtafhhemojdblpaaGreatSEG
import Derived.Deep.RegionWith
import Derived.Deep.RegionHeld3
import Derived.Deep.CutRange
import Derived.Sort.AtCall
/-
  The program's distances: the least over a row (leastOf).
-/
namespace Go.Proofs.YtafhhemojdblpaaGreat
open Go.RowKit
set_option linter.unusedVariables false
def leastV (D:Nat → RQ):Nat → RQ
 | 0=>D 0
 | k+1=>minQ (leastV D k) (D (k+1))
theorem leastV_fit {D:Nat → RQ} (h:∀ i,QFit (D i)):∀ k,QFit (leastV D k)
 | 0=>h 0
 | _+1=>minQ_fit _ _
/-- the least so far, in its variable at block g -/
def LeastAt (w wx:World) (g:Nat) (Z:RQ) (TB TI:TypeId):Prop :=
 ∃ v0 v1 v2 lo hi,Box wx g TB #[v0,v1,v2]∧ROwn wx lo hi TI v0 v1 v2 Z∧((g < lo ∨ hi≤g)∧w.heap.size < lo∧hi≤wx.heap.size∧w.heap.size < g)∧Below w.heap.size w wx
theorem LeastAt.set {w u:World} {g lo hi:Nat} {x y z v0 v1 v2:Value} {Z:RQ} {TB TI:TypeId} (k:Box u g TB #[x,y,z]) (hb:Below w.heap.size w u) (o:ROwn u lo hi TI v0 v1 v2 Z) (hg:w.heap.size < g) (hd:g < lo) (hh:hi≤u.heap.size) :
 LeastAt w (((u.setCell ⟨g,0,none⟩ v0).setCell ⟨g,1,none⟩ v1).setCell ⟨g,2,none⟩ v2) g Z TB TI :=
 ⟨v0,v1,v2,lo,hi,((k.set 0 _).set 1 _).set 2 _,((o.setv (.inl hd) 0 _).setv (.inl hd) 1 _).setv (.inl hd) 2 _,⟨.inl hd,by omega,by simp only [setCell_size];exact hh,hg⟩,((hb.setCell (p:=⟨g,0,none⟩) (by show _≤g;omega) _).setCell (p:=⟨g,1,none⟩) (by show _≤g;omega) _).setCell (p:=⟨g,2,none⟩) (by show _≤g;omega) _⟩
set_option maxRecDepth 100000 in
set_option maxHeartbeats 6400000 in
theorem least_seg (w:World) (g n:Nat) (l:List V2) (hp:polyP l) (hn:l.length=n) (hE:EdgesAt w g l) (hg:g < w.heap.size) (p:Addr) (D:Nat → RQ) (hD:∀ i,QFit (D i)) (HF:∀ (W:World) (i:Nat) (v0 v1 v2 v3 v4 v5 v6 v7 v8 v9 v10 v11:Value),Below w.heap.size w W → i < n → GIn W W.heap.size v0 v1 v2 v3 v4 v5 v6 v7 v8 v9 v10 v11 (edgeP l i) → Calls Tryz.prog 34 #[.agg #[v0,v1,v2,v3,v4,v5,v6,v7,v8,v9,v10,v11],.pointer (some p)] W fun e w'=>RRes 3 W w' e (D i)) :
 Calls Tryz.prog 32 #[.slice (some ⟨g,0,none⟩) n n,.func (.func 34) #[] #[.pointer (some p)]] w fun e w'=>RRes 3 w w' e (leastV D (n - 1)):=by
 have hn16:n≤16:=by have:=hp.2.1;omega
 have hn3:3≤n:=by have:=hp.1;omega
 have HFF:=hide HF
 clear HF
 obtain ⟨W0,hW0⟩:∃ W0,W0=(w.alloc (.cells #[.bool false,.slice none 0 0,.slice none 0 0] 27)):=⟨_,rfl⟩
 have hT0:Below w.heap.size w W0:=by rw [hW0];exact below_new _ _
 have kr:Box W0 (w.heap.size) 27 #[.bool false,.slice none 0 0,.slice none 0 0]:=by rw [hW0];exact Box.last _ _ _ rfl
 have hs0:W0.heap.size=w.heap.size+1:=by rw [hW0,alloc_size]
 go_enter Tryz.func32,Tryz.ntmps32
 go_upto_region 1 with fail
 rw [←hW0]
 clear hW0
 have hz:=edge_ok hp (i:=0) (by omega)
 obtain ⟨v0,v1,v2,v3,v4,v5,v6,v7,v8,v9,v10,v11,hc,hG⟩:=((hE (0) (by omega)).below hg (hT0)).seg (S:=edgeP l (0)) ⟨⟨ratQ_fit hz.1.1,ratQ_fit hz.1.2⟩,ratQ_fit hz.2.1,ratQ_fit hz.2.2⟩
 obtain ⟨eb,eA,en,ec,eD,em,ek,eyb,eyA,eyn,eyc,eyD,eym,eyk,rfl,rfl,rfl,rfl,rfl,rfl⟩:=hG.fst.cut
 obtain ⟨fb,fA,fn,fc,fD,fm,fk,fyb,fyA,fyn,fyc,fyD,fym,fyk,rfl,rfl,rfl,rfl,rfl,rfl⟩:=hG.snd.cut
 have y0:=hc 0 _ rfl
 have y1:=hc 1 _ rfl
 have y2:=hc 2 _ rfl
 have y3:=hc 3 _ rfl
 have y4:=hc 4 _ rfl
 have y5:=hc 5 _ rfl
 have y6:=hc 6 _ rfl
 have y7:=hc 7 _ rfl
 have y8:=hc 8 _ rfl
 have y9:=hc 9 _ rfl
 have y10:=hc 10 _ rfl
 have y11:=hc 11 _ rfl
 simp only [Nat.zero_mul,Nat.zero_add,Nat.add_zero] at y0 y1 y2 y3 y4 y5 y6 y7 y8 y9 y10 y11
 have HC0:=hide (HFF.out W0 0 _ _ _ _ _ _ _ _ _ _ _ _ hT0 (by omega) hG)
 clear hc hG hz
 go_wp2_with fail
 refine HC0.out.mono ?_
 rintro e w1 ⟨a0,a1,a2,rfl,oa,hb1⟩
 obtain ⟨ab,aA,an,ac,aD,am,ak,rfl,rfl,rfl⟩:=oa.cut
 clear HC0 y0 y1 y2 y3 y4 y5 y6 y7 y8 y9 y10 y11
 have hs1:=hb1.size
 have hT1:=below_then hT0 hb1
 have kr:=kr.below hb1 kr.lt
 clear hT0
 clear hb1
 obtain ⟨w2,hw2⟩:∃ xw,xw=(w1.alloc (.cells #[.bool ab,.slice aA an ac,.slice aD am ak] 27)):=⟨_,rfl⟩
 have hb2:Below w1.heap.size w1 w2:=by rw [hw2];exact below_new _ _
 have hq2:w2.heap.size=w1.heap.size+1:=by rw [hw2,alloc_size]
 have kf:Box w2 (w1.heap.size) 27 #[.bool ab,.slice aA an ac,.slice aD am ak]:=by rw [hw2];exact Box.last _ _ _ (by omega)
 have hs2:=hb2.size
 have hT2:=below_then hT1 hb2
 have kr:=kr.below hb2 kr.lt
 have oa:=oa.below hb2 (by omega)
 clear hT1
 go_upto_region 2 with fail
 rw [←hw2]
 clear hw2 hb2
 have HL0:Hid (LeastAt w w2 w1.heap.size (leastV D 0) 27 3):=⟨_,_,_,_,_,kf,oa,⟨.inr (by omega),by omega,by omega,by omega⟩,hT2⟩
 have HR0:Hid (Box w2 w.heap.size 27 #[.bool false,.slice none 0 0,.slice none 0 0]):=kr
 have HS1:Hid (w.heap.size < w1.heap.size):=by show _ < _;omega
 clear kf oa kr hT2 hs0 hs1 hs2 hq2
 generalize w1.heap.size=gf at *
 go_wp2_with fail
 go_loopw [16] (fun i wr=>∃ k:Nat,k+1≤n∧i=.int .i64 k∧Box wr w.heap.size 27 #[.bool false,.slice none 0 0,.slice none 0 0]∧LeastAt w wr gf (leastV D k) 27 3) (fun i _=>n - 1 - (intOf i).toNat)
 case atStart=>exact ⟨0,by omega,rfl,HR0.out,HL0.out⟩
 case round =>
  clear HR0 HL0
  obtain ⟨k,hk,rfl,kr,a0,a1,a2,lo,hi,kf,oa,⟨hd1,hd2,hd3,hd4⟩,hT0⟩:=hrel
  obtain ⟨ab,aA,an,ac,aD,am,ak,rfl,rfl,rfl⟩:=oa.cut
  have hs0:=hT0.size
  by_cases hlt:k+1 < n
  · skip
    have hz:=edge_ok hp (i:=k+1) (by omega)
    obtain ⟨v0,v1,v2,v3,v4,v5,v6,v7,v8,v9,v10,v11,hc,hG⟩:=((hE (k+1) (by omega)).below hg (hT0)).seg (S:=edgeP l (k+1)) ⟨⟨ratQ_fit hz.1.1,ratQ_fit hz.1.2⟩,ratQ_fit hz.2.1,ratQ_fit hz.2.2⟩
    obtain ⟨eb,eA,en,ec,eD,em,ek,eyb,eyA,eyn,eyc,eyD,eym,eyk,rfl,rfl,rfl,rfl,rfl,rfl⟩:=hG.fst.cut
    obtain ⟨fb,fA,fn,fc,fD,fm,fk,fyb,fyA,fyn,fyc,fyD,fym,fyk,rfl,rfl,rfl,rfl,rfl,rfl⟩:=hG.snd.cut
    have y0:wr.cell? ⟨g,12+k * 12,none⟩=some (.bool eb):=by have:=hc 0 _ rfl;rwa [show (k+1) * 12+0=12+k * 12 by omega] at this
    have y1:wr.cell? ⟨g,12+k * 12+1,none⟩=some (.slice eA en ec):=by have:=hc 1 _ rfl;rwa [show (k+1) * 12+1=12+k * 12+1 by omega] at this
    have y2:wr.cell? ⟨g,12+k * 12+2,none⟩=some (.slice eD em ek):=by have:=hc 2 _ rfl;rwa [show (k+1) * 12+2=12+k * 12+2 by omega] at this
    have y3:wr.cell? ⟨g,12+k * 12+3,none⟩=some (.bool eyb):=by have:=hc 3 _ rfl;rwa [show (k+1) * 12+3=12+k * 12+3 by omega] at this
    have y4:wr.cell? ⟨g,12+k * 12+4,none⟩=some (.slice eyA eyn eyc):=by have:=hc 4 _ rfl;rwa [show (k+1) * 12+4=12+k * 12+4 by omega] at this
    have y5:wr.cell? ⟨g,12+k * 12+5,none⟩=some (.slice eyD eym eyk):=by have:=hc 5 _ rfl;rwa [show (k+1) * 12+5=12+k * 12+5 by omega] at this
    have y6:wr.cell? ⟨g,12+k * 12+6,none⟩=some (.bool fb):=by have:=hc 6 _ rfl;rwa [show (k+1) * 12+6=12+k * 12+6 by omega] at this
    have y7:wr.cell? ⟨g,12+k * 12+7,none⟩=some (.slice fA fn fc):=by have:=hc 7 _ rfl;rwa [show (k+1) * 12+7=12+k * 12+7 by omega] at this
    have y8:wr.cell? ⟨g,12+k * 12+8,none⟩=some (.slice fD fm fk):=by have:=hc 8 _ rfl;rwa [show (k+1) * 12+8=12+k * 12+8 by omega] at this
    have y9:wr.cell? ⟨g,12+k * 12+9,none⟩=some (.bool fyb):=by have:=hc 9 _ rfl;rwa [show (k+1) * 12+9=12+k * 12+9 by omega] at this
    have y10:wr.cell? ⟨g,12+k * 12+10,none⟩=some (.slice fyA fyn fyc):=by have:=hc 10 _ rfl;rwa [show (k+1) * 12+10=12+k * 12+10 by omega] at this
    have y11:wr.cell? ⟨g,12+k * 12+11,none⟩=some (.slice fyD fym fyk):=by have:=hc 11 _ rfl;rwa [show (k+1) * 12+11=12+k * 12+11 by omega] at this
    clear hc hz
    have hgf:=kf.lt
    obtain ⟨w1,hw1⟩:∃ xw,xw=(wr.alloc (.cells #[.bool eb,.slice eA en ec,.slice eD em ek,.bool eyb,.slice eyA eyn eyc,.slice eyD eym eyk,.bool fb,.slice fA fn fc,.slice fD fm fk,.bool fyb,.slice fyA fyn fyc,.slice fyD fym fyk] 64)):=⟨_,rfl⟩
    have hb1:Below wr.heap.size wr w1:=by rw [hw1];exact below_new _ _
    have hq1:w1.heap.size=wr.heap.size+1:=by rw [hw1,alloc_size]
    have ko:Box w1 (wr.heap.size) 64 #[.bool eb,.slice eA en ec,.slice eD em ek,.bool eyb,.slice eyA eyn eyc,.slice eyD eym eyk,.bool fb,.slice fA fn fc,.slice fD fm fk,.bool fyb,.slice fyA fyn fyc,.slice fyD fym fyk]:=by rw [hw1];exact Box.last _ _ _ (by omega)
    have hs1:=hb1.size
    have hT1:=below_then hT0 hb1
    have kr:=kr.below hb1 kr.lt
    have kf:=kf.below hb1 kf.lt
    have oa:=oa.below hb1 (by omega)
    clear hT0
    go_upto_region 5 with fail
    rw [←hw1]
    have hbZ:=hb1
    clear hw1 hb1
    clear y0 y1 y2 y3 y4 y5 y6 y7 y8 y9 y10 y11
    have hq:QIn w1 w1.heap.size (.bool ab) (.slice aA an ac) (.slice aD am ak) (leastV D k):=oa.in_ (leastV_fit hD k) (by omega)
    have HTW:=hide hT1
    have hbW:Below wr.heap.size wr w1:=hbZ
    have HC1:=hide (fun (W:World) (h:Below w1.heap.size w1 W)=>HFF.out W (k+1) _ _ _ _ _ _ _ _ _ _ _ _ (below_then HTW.out h) (by omega) (((hG.below (hbW)).below (h.mono (by omega))).wider (by have:=h.size;omega)))
    have HC2:=hide (fun (W:World) (h:Below w1.heap.size w1 W)=>(hq.below h).wider h.size)
    clear hq oa hG HTW hbW
    have HBo:=hide ko
    have HBf:=hide kf
    have HS0:Hid (Below w1.heap.size w1 w1.drew):=(Below.refl _ _).drew
    obtain ⟨yo0,yo1,yo2,yo3,yo4,yo5,yo6,yo7,yo8,yo9,yo10,yo11⟩:=ko.cells12
    obtain ⟨yf0,yf1,yf2⟩:=kf.cells3
    go_region_with
     (first
       | (go_at_call 31;have HX:=HS1.out;(with_reducible refine Calls.mono (impl_minQ u1 u1.heap.size (Nat.le_refl _) (HC2.out _ HS1.out) qx) ?_);rintro e u2 ⟨z0,z1,z2,rfl,oz,hb2⟩;obtain ⟨zb,zA,zn,zc,zD,zm,zk,rfl,rfl,rfl⟩:=oz.cut;have qz:=oz.in_ (minQ_fit _ _) (Nat.le_refl _);have qx:=qx.up hb2;have hz2:u1.heap.size≤u2.heap.size:=hb2.size;have HS2:=hide (below_then HX hb2);clear HX;have hTT:=below_then hT1 HS2.out;have kRo2:=HBo.out.below HS2.out HBo.out.lt;obtain ⟨to0_2,to1_2,to2_2,to3_2,to4_2,to5_2,to6_2,to7_2,to8_2,to9_2,to10_2,to11_2⟩:=kRo2.cells12;have kRf2:=HBf.out.below HS2.out HBf.out.lt;obtain ⟨tf0_2,tf1_2,tf2_2,ff0_2,ff1_2,ff2_2⟩:=kRf2.facts3;have kR:=kRf2)
       | (go_at_call 34;have HX:=HS0.out;(with_reducible refine Calls.mono (HC1.out _ HS0.out) ?_);rintro e u1 ⟨x0,x1,x2,rfl,ox,hb1⟩;obtain ⟨xb,xA,xn,xc,xD,xm,xk,rfl,rfl,rfl⟩:=ox.cut;have qx:=ox.in_ (hD _) (Nat.le_refl _);have hz1:w1.heap.size≤u1.heap.size:=hb1.size;have HS1:=hide (below_then HX hb1);clear HX;have kRo1:=HBo.out.below HS1.out HBo.out.lt;obtain ⟨to0_1,to1_1,to2_1,to3_1,to4_1,to5_1,to6_1,to7_1,to8_1,to9_1,to10_1,to11_1⟩:=kRo1.cells12;have kRf1:=HBf.out.below HS1.out HBf.out.lt;obtain ⟨tf0_1,tf1_1,tf2_1,ff0_1,ff1_1,ff2_1⟩:=kRf1.facts3))
    all_goals
     have HV:=hide (LeastAt.set kR hTT oz.r hd4 (by omega) (Nat.le_refl _))
     have HK:=hide ((((kr.below HS2.out kr.lt).setv (show w.heap.size ≠ gf by omega) 0 (.bool zb)).setv (show w.heap.size ≠ gf by omega) 1 (.slice zA zn zc)).setv (show w.heap.size ≠ gf by omega) 2 (.slice zD zm zk))
     clear kR oz kr kRf1 kRf2
     go_wp2_with fail
     go_roundw
     case rel=>exact ⟨k+1,by omega,by go_num,HK.out,HV.out⟩
     case measure=>simp [intOf];omega
  · obtain rfl:n=k+1:=by omega
    have HV:=hide (show RRes 3 w (((wr.setCell ⟨w.heap.size,0,none⟩ (.bool ab)).setCell ⟨w.heap.size,1,none⟩ (.slice aA an ac)).setCell ⟨w.heap.size,2,none⟩ (.slice aD am ak)) (.returned (.agg #[.bool ab,.slice aA an ac,.slice aD am ak])) (leastV D k) from ⟨_,_,_,rfl,(((oa.setv (.inl hd2) 0 _).setv (.inl hd2) 1 _).setv (.inl hd2) 2 _).wider (by omega) (by simp only [setCell_size];exact hd3),((hT0.setCell (p:=⟨w.heap.size,0,none⟩) (Nat.le_refl _) _).setCell (p:=⟨w.heap.size,1,none⟩) (Nat.le_refl _) _).setCell (p:=⟨w.heap.size,2,none⟩) (Nat.le_refl _) _⟩)
    have hkr:=((kr.set 0 (.bool ab)).set 1 (.slice aA an ac)).set 2 (.slice aD am ak)
    obtain ⟨yf0,yf1,yf2⟩:=kf.cells3
    obtain ⟨s0,s1,s2,g0,g1,g2⟩:=kr.facts3
    go_wp2_with fail
    refine bodyPost_ret (results_cell_row rfl _ _ w.heap.size _ #[.bool ab,.slice aA an ac,.slice aD am ak] (0,0) _ rfl hkr Tryz.underlying27 rfl Tryz.sizeRat) rfl ?_
    exact HV.out
end Go.Proofs.YtafhhemojdblpaaGreat
/-
  The program's distances: SquareToPolygon and its closure.
-/
namespace Go.Proofs.YtafhhemojdblpaaGreat
open Go.RowKit
set_option linter.unusedVariables false
theorem ret_r {w W:World} {g lo hi:Nat} {E F:TypeId} {x0 x1 x2 v0 v1 v2:Value} {Z:RQ} (k:Box W g E #[x0,x1,x2]) (o:ROwn W lo hi F v0 v1 v2 Z) (hb:Below w.heap.size w W) (hg:w.heap.size≤g) (hl:w.heap.size≤lo) (hh:hi≤W.heap.size) (hd:g < lo ∨ hi≤g) :
 Box (((W.setCell ⟨g,0,none⟩ v0).setCell ⟨g,1,none⟩ v1).setCell ⟨g,2,none⟩ v2) g E #[v0,v1,v2]∧RRes F w (((W.setCell ⟨g,0,none⟩ v0).setCell ⟨g,1,none⟩ v1).setCell ⟨g,2,none⟩ v2) (.returned (.agg #[v0,v1,v2])) Z :=
 ⟨((k.set 0 _).set 1 _).set 2 _,_,_,_,rfl,(((o.setv hd 0 _).setv hd 1 _).setv hd 2 _).wider hl (by simp only [setCell_size];exact hh),((hb.setCell (p:=⟨g,0,none⟩) hg _).setCell (p:=⟨g,1,none⟩) hg _).setCell (p:=⟨g,2,none⟩) hg _⟩
/-- the square of the distance between a polygon and a point -/
noncomputable def toP (l:List V2) (P:PQ) (T:Int × Int × Int):RQ:=if 0≤contS l T then intQ 0 else leastV (fun i=>sqP P (edgeP l i).1 (edgeP l i).2) (l.length - 1)
theorem toP_fit (l:List V2) (P:PQ) (T:Int × Int × Int):QFit (toP l P T):=by unfold toP;split;exact intQ_fit _;exact leastV_fit (fun _=>sqP_fit _ _ _) _
set_option maxRecDepth 100000 in
set_option maxHeartbeats 3200000 in
theorem clos_edge (w:World) (gp:Nat) {p0 p1 p2 p3 p4 p5:Value} {P:PQ} (kp:Box w gp 29 #[p0,p1,p2,p3,p4,p5]) (hp:PIn w w.heap.size p0 p1 p2 p3 p4 p5 P) {s0 s1 s2 s3 s4 s5 s6 s7 s8 s9 s10 s11:Value} {S:PQ × PQ} (hs:GIn w w.heap.size s0 s1 s2 s3 s4 s5 s6 s7 s8 s9 s10 s11 S) :
 Calls Tryz.prog 34 #[.agg #[s0,s1,s2,s3,s4,s5,s6,s7,s8,s9,s10,s11],.pointer (some ⟨gp,0,none⟩)] w fun e w'=>RRes 3 w w' e (sqP P S.1 S.2):=by
 obtain ⟨pb,pA,pn,pc,pD,pm,pk,pyb,pyA,pyn,pyc,pyD,pym,pyk,rfl,rfl,rfl,rfl,rfl,rfl⟩:=hp.cut
 obtain ⟨eb,eA,en,ec,eD,em,ek,eyb,eyA,eyn,eyc,eyD,eym,eyk,rfl,rfl,rfl,rfl,rfl,rfl⟩:=hs.fst.cut
 obtain ⟨fb,fA,fn,fc,fD,fm,fk,fyb,fyA,fyn,fyc,fyD,fym,fyk,rfl,rfl,rfl,rfl,rfl,rfl⟩:=hs.snd.cut
 have hgp:=kp.lt
 obtain ⟨W0,hW0⟩:∃ W0,W0=((w.alloc (.cells #[.bool eb,.slice eA en ec,.slice eD em ek,.bool eyb,.slice eyA eyn eyc,.slice eyD eym eyk,.bool fb,.slice fA fn fc,.slice fD fm fk,.bool fyb,.slice fyA fyn fyc,.slice fyD fym fyk] 64)).alloc (.cells #[.bool false,.slice none 0 0,.slice none 0 0] 27)):=⟨_,rfl⟩
 have hT0:Below w.heap.size w W0:=by rw [hW0];exact below_alloc (below_new _ _) _
 have ks:Box W0 (w.heap.size) 64 #[.bool eb,.slice eA en ec,.slice eD em ek,.bool eyb,.slice eyA eyn eyc,.slice eyD eym eyk,.bool fb,.slice fA fn fc,.slice fD fm fk,.bool fyb,.slice fyA fyn fyc,.slice fyD fym fyk]:=by rw [hW0];exact (Box.last _ _ _ rfl).alloc _
 have kr:Box W0 (w.heap.size+1) 27 #[.bool false,.slice none 0 0,.slice none 0 0]:=by rw [hW0];exact Box.last _ _ _ (alloc_size _ _).symm
 have hs0:W0.heap.size=w.heap.size+2:=by rw [hW0,alloc_size,alloc_size]
 go_enter Tryz.func34,Tryz.ntmps34
 go_upto_region 1 with fail
 rw [←hW0]
 clear hW0
 have kp:=kp.below hT0 kp.lt
 have hp:=hp.below hT0
 have hs:=hs.below hT0
 have HC:=hide (impl_SquareToSegment W0 w.heap.size (by omega) hp hs.fst hs.snd)
 clear hp hs
 obtain ⟨yp0,yp1,yp2,yp3,yp4,yp5⟩:=kp.cells6
 obtain ⟨ys0,ys1,ys2,ys3,ys4,ys5,ys6,ys7,ys8,ys9,ys10,ys11⟩:=ks.cells12
 go_wp2_with fail
 refine (HC.out).mono ?_
 rintro e w1 ⟨z0,z1,z2,rfl,oz,hb1⟩
 clear yp0 yp1 yp2 yp3 yp4 yp5 ys0 ys1 ys2 ys3 ys4 ys5 ys6 ys7 ys8 ys9 ys10 ys11
 obtain ⟨zb,zA,zn,zc,zD,zm,zk,rfl,rfl,rfl⟩:=oz.cut
 have hs1:=hb1.size
 have hT1:=below_then hT0 hb1
 have ks:=ks.below hb1 ks.lt
 have kr:=kr.below hb1 kr.lt
 have kp:=kp.below hb1 kp.lt
 clear hT0
 clear hb1
 have oz:=oz.r
 clear HC
 have HO:=hide (ret_r kr oz hT1 (by omega) (by omega) (by omega) (.inl (by omega)))
 obtain ⟨s0,s1,s2,z0,z1,z2⟩:=kr.facts3
 clear kr oz
 go_wp2_with fail
 refine bodyPost_ret (results_cell_row rfl _ _ (w.heap.size+1) _ #[.bool zb,.slice zA zn zc,.slice zD zm zk] (0,0) _ rfl HO.out.1 Tryz.underlying27 rfl Tryz.sizeRat) rfl ?_
 exact HO.out.2
set_option maxRecDepth 100000 in
set_option maxHeartbeats 6400000 in
theorem impl_SquareToPolygon (w:World) (B:Nat) (hB:B≤w.heap.size) (A:Option Addr) (n c:Nat) (l:List V2) (R:RdV w B A n l) (hpl:polyP l) {p0 p1 p2 p3 p4 p5:Value} {P:PQ} (hp:PIn w B p0 p1 p2 p3 p4 p5 P) {T:Int × Int × Int} (sp:SmallP P T) :
 Calls Tryz.prog 8 #[.slice A n c,.agg #[p0,p1,p2,p3,p4,p5]] w fun e w'=>RRes 3 w w' e (toP l P T):=by
 have HE:Hid (toP l P T=if 0≤contS l T then intQ 0 else leastV (fun i=>sqP P (edgeP l i).1 (edgeP l i).2) (l.length - 1)):=rfl
 generalize toP l P T=TT at HE ⊢
 have hn:l.length=n:=R.1
 have hn16:n≤16:=by have:=hpl.2.1;omega
 have hn3:3≤n:=by have:=hpl.1;omega
 obtain ⟨pb,pA,pn,pc,pD,pm,pk,pyb,pyA,pyn,pyc,pyD,pym,pyk,rfl,rfl,rfl,rfl,rfl,rfl⟩:=hp.cut
 obtain ⟨W0,hW0⟩:∃ W0,W0=((w.alloc (.cells #[.bool pb,.slice pA pn pc,.slice pD pm pk,.bool pyb,.slice pyA pyn pyc,.slice pyD pym pyk] 29)).alloc (.cells #[.bool false,.slice none 0 0,.slice none 0 0] 27)):=⟨_,rfl⟩
 have hT0:Below w.heap.size w W0:=by rw [hW0];exact below_alloc (below_new _ _) _
 have kp:Box W0 (w.heap.size) 29 #[.bool pb,.slice pA pn pc,.slice pD pm pk,.bool pyb,.slice pyA pyn pyc,.slice pyD pym pyk]:=by rw [hW0];exact (Box.last _ _ _ rfl).alloc _
 have kr:Box W0 (w.heap.size+1) 27 #[.bool false,.slice none 0 0,.slice none 0 0]:=by rw [hW0];exact Box.last _ _ _ (alloc_size _ _).symm
 have hs0:W0.heap.size=w.heap.size+2:=by rw [hW0,alloc_size,alloc_size]
 go_enter Tryz.func8,Tryz.ntmps8
 go_upto_region 1 with fail
 rw [←hW0]
 clear hW0
 have hp:=hp.below (hT0.mono hB)
 have R:=R.below (hT0.mono hB)
 have HI:=hide (impl_IsPolygon W0 B (by omega) A n c l R)
 rw [polyB_iff.2 hpl] at HI
 have HCP:=hide (fun (W:World) (h:Below W0.heap.size W0 W)=>contains_small W B (by have:=h.size;omega) A n c l (R.below (h.mono (by omega))) (hp.below (h.mono (by omega))) sp)
 have HBO:=hide (fun (W:World) (h:Below W0.heap.size W0 W)=>impl_boundaryOf W B (by have:=h.size;omega) A n c l (R.below (h.mono (by omega))) (by omega) (by omega))
 have HPP:=hide (fun (W:World) (h:Below W0.heap.size W0 W)=>(hp.below (h.mono (by omega))).wider (show B≤W.heap.size by have:=h.size;omega))
 obtain ⟨cv,hcv⟩:∃ cv,cv=contS l T:=⟨_,rfl⟩
 rw [←hcv] at HCP HE
 clear hcv hp R sp
 go_wp2_with fail
 refine HI.out.mono ?_
 rintro e w1 ⟨rfl,hb1⟩
 have hbW1:=hide hb1
 have hs1:=hb1.size
 have hT1:=below_then hT0 hb1
 have kp:=kp.below hb1 kp.lt
 have kr:=kr.below hb1 kr.lt
 clear hT0
 clear hb1 HI
 obtain ⟨yp0,yp1,yp2,yp3,yp4,yp5⟩:=kp.cells6
 go_wp2_with fail
 refine (HCP.out _ hbW1.out).mono ?_
 rintro e w2 ⟨rfl,hb2⟩
 have hbW2:=hide (below_then hbW1.out hb2)
 clear yp0 yp1 yp2 yp3 yp4 yp5
 have hs2:=hb2.size
 have hT2:=below_then hT1 hb2
 have kp:=kp.below hb2 kp.lt
 have kr:=kr.below hb2 kr.lt
 clear hT1
 clear hb2 HCP
 by_cases hc:0≤cv
 · have hd:decide (0≤cv)=true:=decide_eq_true hc
   have hcc:(0≤cv)=True:=eq_true hc
   have HE1:Hid (TT=intQ 0):=HE.out.trans (if_pos hc)
   clear HE
   go_wp2_with fail
   refine ((impl_intQ w2 0 (by decide))).mono ?_
   rintro e w3 ⟨z0,z1,z2,rfl,oz,hb3⟩
   obtain ⟨zb,zA,zn,zc,zD,zm,zk,rfl,rfl,rfl⟩:=oz.cut
   have hs3:=hb3.size
   have hT3:=below_then hT2 hb3
   have kp:=kp.below hb3 kp.lt
   have kr:=kr.below hb3 kr.lt
   clear hT2
   clear hb3
   have oz:=oz.r
   clear hd hcc
   have HO:=hide (ret_r kr oz hT3 (by omega) (by omega) (by omega) (.inl (by omega)))
   obtain ⟨s0,s1,s2,z0,z1,z2⟩:=kr.facts3
   clear kr oz
   go_wp2_with fail
   refine bodyPost_ret (results_cell_row rfl _ _ (w.heap.size+1) _ #[.bool zb,.slice zA zn zc,.slice zD zm zk] (0,0) _ rfl HO.out.1 Tryz.underlying27 rfl Tryz.sizeRat) rfl ?_
   rw [HE1.out];exact HO.out.2
 · have hd:decide (0≤cv)=false:=decide_eq_false hc
   have hcc:(0≤cv)=False:=eq_false hc
   have HE1:Hid (TT=leastV (fun i=>sqP P (edgeP l i).1 (edgeP l i).2) (n - 1)):=by rw [←hn];exact HE.out.trans (if_neg hc)
   clear HE
   go_wp2_with fail
   refine (HBO.out _ hbW2.out).mono ?_
   rintro e w3 ⟨gr,rfl,hgl,hgr,hEd,hb3⟩
   have hbW3:=hide (below_then hbW2.out hb3)
   have hs3:=hb3.size
   have hT3:=below_then hT2 hb3
   have kp:=kp.below hb3 kp.lt
   have kr:=kr.below hb3 kr.lt
   clear hT2
   clear hb3 HBO
   have hkl:=kp.lt
   have HL:=hide (least_seg w3 gr n l hpl hn hEd hgr ⟨w.heap.size,0,none⟩ (fun i=>sqP P (edgeP l i).1 (edgeP l i).2) (fun _=>sqP_fit _ _ _) (fun W i v0 v1 v2 v3 v4 v5 v6 v7 v8 v9 v10 v11 h hi hG=>clos_edge W w.heap.size (kp.below h hkl) (HPP.out W (below_then hbW3.out h)) hG))
   clear HPP hEd
   go_wp2_with fail
   refine HL.out.mono ?_
   rintro e w4 ⟨z0,z1,z2,rfl,oz,hb4⟩
   obtain ⟨zb,zA,zn,zc,zD,zm,zk,rfl,rfl,rfl⟩:=oz.cut
   have hs4:=hb4.size
   have hT4:=below_then hT3 hb4
   have kp:=kp.below hb4 kp.lt
   have kr:=kr.below hb4 kr.lt
   clear hT3
   clear hb4 HL
   clear hd hcc
   have HO:=hide (ret_r kr oz hT4 (by omega) (by omega) (by omega) (.inl (by omega)))
   obtain ⟨s0,s1,s2,z0,z1,z2⟩:=kr.facts3
   clear kr oz
   go_wp2_with fail
   refine bodyPost_ret (results_cell_row rfl _ _ (w.heap.size+1) _ #[.bool zb,.slice zA zn zc,.slice zD zm zk] (0,0) _ rfl HO.out.1 Tryz.underlying27 rfl Tryz.sizeRat) rfl ?_
   rw [HE1.out];exact HO.out.2
end Go.Proofs.YtafhhemojdblpaaGreat
/-
  The program's distances: the least over two points, and over a polygon's corners.
-/
namespace Go.Proofs.YtafhhemojdblpaaGreat
open Go.RowKit
set_option linter.unusedVariables false
set_option maxRecDepth 100000 in
set_option maxHeartbeats 6400000 in
theorem least_two (w:World) (g:Nat) {p0 p1 p2 p3 p4 p5 q0 q1 q2 q3 q4 q5:Value} {P Q:PQ} (kg:Box w g 29 #[p0,p1,p2,p3,p4,p5,q0,q1,q2,q3,q4,q5]) (hP:PIn w w.heap.size p0 p1 p2 p3 p4 p5 P) (hQ:PIn w w.heap.size q0 q1 q2 q3 q4 q5 Q) (p:Addr) (D:Nat → RQ) (hD:∀ i,QFit (D i)) (HF0:∀ W:World,Below w.heap.size w W → Calls Tryz.prog 28 #[.agg #[p0,p1,p2,p3,p4,p5],.pointer (some p)] W fun e w'=>RRes 3 W w' e (D 0)) (HF1:∀ W:World,Below w.heap.size w W → Calls Tryz.prog 28 #[.agg #[q0,q1,q2,q3,q4,q5],.pointer (some p)] W fun e w'=>RRes 3 W w' e (D 1)) :
 Calls Tryz.prog 27 #[.slice (some ⟨g,0,none⟩) 2 2,.func (.func 28) #[] #[.pointer (some p)]] w fun e w'=>RRes 3 w w' e (leastV D (2 - 1)):=by
 obtain ⟨pb,pA,pn,pc,pD,pm,pk,pyb,pyA,pyn,pyc,pyD,pym,pyk,rfl,rfl,rfl,rfl,rfl,rfl⟩:=hP.cut
 obtain ⟨qb,qA,qn,qc,qD,qm,qk,qyb,qyA,qyn,qyc,qyD,qym,qyk,rfl,rfl,rfl,rfl,rfl,rfl⟩:=hQ.cut
 have HKG:=hide kg
 have hglt:=kg.lt
 have HG0:=hide HF0
 have HG1:=hide HF1
 clear kg hP hQ HF0 HF1
 obtain ⟨W0,hW0⟩:∃ W0,W0=(w.alloc (.cells #[.bool false,.slice none 0 0,.slice none 0 0] 27)):=⟨_,rfl⟩
 have hT0:Below w.heap.size w W0:=by rw [hW0];exact below_new _ _
 have kr:Box W0 (w.heap.size) 27 #[.bool false,.slice none 0 0,.slice none 0 0]:=by rw [hW0];exact Box.last _ _ _ rfl
 have hs0:W0.heap.size=w.heap.size+1:=by rw [hW0,alloc_size]
 go_enter Tryz.func27,Tryz.ntmps27
 go_upto_region 1 with fail
 rw [←hW0]
 clear hW0
 have kg:=HKG.out.below hT0 hglt
 obtain ⟨y0,y1,y2,y3,y4,y5,y6,y7,y8,y9,y10,y11⟩:=kg.cells12
 clear kg
 have HC0:=hide (HG0.out W0 hT0)
 go_wp2_with fail
 refine HC0.out.mono ?_
 rintro e w1 ⟨a0,a1,a2,rfl,oa,hb1⟩
 obtain ⟨ab,aA,an,ac,aD,am,ak,rfl,rfl,rfl⟩:=oa.cut
 clear HC0 y0 y1 y2 y3 y4 y5 y6 y7 y8 y9 y10 y11
 have hs1:=hb1.size
 have hT1:=below_then hT0 hb1
 have kr:=kr.below hb1 kr.lt
 clear hT0
 clear hb1
 obtain ⟨w2,hw2⟩:∃ xw,xw=(w1.alloc (.cells #[.bool ab,.slice aA an ac,.slice aD am ak] 27)):=⟨_,rfl⟩
 have hb2:Below w1.heap.size w1 w2:=by rw [hw2];exact below_new _ _
 have hq2:w2.heap.size=w1.heap.size+1:=by rw [hw2,alloc_size]
 have kf:Box w2 (w1.heap.size) 27 #[.bool ab,.slice aA an ac,.slice aD am ak]:=by rw [hw2];exact Box.last _ _ _ (by omega)
 have hs2:=hb2.size
 have hT2:=below_then hT1 hb2
 have kr:=kr.below hb2 kr.lt
 have oa:=oa.below hb2 (by omega)
 clear hT1
 go_upto_region 2 with fail
 rw [←hw2]
 clear hw2 hb2
 have HL0:Hid (LeastAt w w2 w1.heap.size (leastV D 0) 27 3):=⟨_,_,_,_,_,kf,oa,⟨.inr (by omega),by omega,by omega,by omega⟩,hT2⟩
 have HR0:Hid (Box w2 w.heap.size 27 #[.bool false,.slice none 0 0,.slice none 0 0]):=kr
 have HS1:Hid (w.heap.size < w1.heap.size):=by show _ < _;omega
 clear kf oa kr hT2 hs0 hs1 hs2 hq2
 generalize w1.heap.size=gf at *
 go_wp2_with fail
 go_loopw [16] (fun i wr=>∃ k:Nat,k+1≤2∧i=.int .i64 k∧Box wr w.heap.size 27 #[.bool false,.slice none 0 0,.slice none 0 0]∧LeastAt w wr gf (leastV D k) 27 3) (fun i _=>2 - 1 - (intOf i).toNat)
 case atStart=>exact ⟨0,by omega,rfl,HR0.out,HL0.out⟩
 case round =>
  clear HR0 HL0
  obtain ⟨k,hk,rfl,kr,a0,a1,a2,lo,hi,kf,oa,⟨hd1,hd2,hd3,hd4⟩,hT0⟩:=hrel
  obtain ⟨ab,aA,an,ac,aD,am,ak,rfl,rfl,rfl⟩:=oa.cut
  have hs0:=hT0.size
  by_cases hlt:k+1 < 2
  · skip
    have HK0:Hid (k=0):=by show _=_;omega
    have kg:=HKG.out.below hT0 hglt
    have y0:wr.cell? ⟨g,6+k * 6,none⟩=some (.bool qb):=by have:=kg.cell 6;rw [HK0.out];exact this
    have y1:wr.cell? ⟨g,6+k * 6+1,none⟩=some (.slice qA qn qc):=by have:=kg.cell 7;rw [HK0.out];exact this
    have y2:wr.cell? ⟨g,6+k * 6+2,none⟩=some (.slice qD qm qk):=by have:=kg.cell 8;rw [HK0.out];exact this
    have y3:wr.cell? ⟨g,6+k * 6+3,none⟩=some (.bool qyb):=by have:=kg.cell 9;rw [HK0.out];exact this
    have y4:wr.cell? ⟨g,6+k * 6+4,none⟩=some (.slice qyA qyn qyc):=by have:=kg.cell 10;rw [HK0.out];exact this
    have y5:wr.cell? ⟨g,6+k * 6+5,none⟩=some (.slice qyD qym qyk):=by have:=kg.cell 11;rw [HK0.out];exact this
    clear kg
    have hgf:=kf.lt
    obtain ⟨w1,hw1⟩:∃ xw,xw=(wr.alloc (.cells #[.bool qb,.slice qA qn qc,.slice qD qm qk,.bool qyb,.slice qyA qyn qyc,.slice qyD qym qyk] 29)):=⟨_,rfl⟩
    have hb1:Below wr.heap.size wr w1:=by rw [hw1];exact below_new _ _
    have hq1:w1.heap.size=wr.heap.size+1:=by rw [hw1,alloc_size]
    have ko:Box w1 (wr.heap.size) 29 #[.bool qb,.slice qA qn qc,.slice qD qm qk,.bool qyb,.slice qyA qyn qyc,.slice qyD qym qyk]:=by rw [hw1];exact Box.last _ _ _ (by omega)
    have hs1:=hb1.size
    have hT1:=below_then hT0 hb1
    have kr:=kr.below hb1 kr.lt
    have kf:=kf.below hb1 kf.lt
    have oa:=oa.below hb1 (by omega)
    clear hT0
    go_upto_region 5 with fail
    rw [←hw1]
    clear hw1 hb1
    clear y0 y1 y2 y3 y4 y5
    have hq:QIn w1 w1.heap.size (.bool ab) (.slice aA an ac) (.slice aD am ak) (leastV D k):=oa.in_ (leastV_fit hD k) (by omega)
    have HTW:=hide hT1
    have HC1:=hide (fun (W:World) (h:Below w1.heap.size w1 W)=>show Calls _ _ _ W (fun e w'=>RRes 3 W w' e (D (k+1))) from by have:=HG1.out W (below_then HTW.out h);rw [HK0.out];exact this)
    have HC2:=hide (fun (W:World) (h:Below w1.heap.size w1 W)=>(hq.below h).wider h.size)
    clear hq oa HTW
    have HBo:=hide ko
    have HBf:=hide kf
    have HS0:Hid (Below w1.heap.size w1 w1.drew):=(Below.refl _ _).drew
    obtain ⟨yo0,yo1,yo2,yo3,yo4,yo5⟩:=ko.cells6
    obtain ⟨yf0,yf1,yf2⟩:=kf.cells3
    go_region_with
     (first
       | (go_at_call 31;have HX:=HS1.out;(with_reducible refine Calls.mono (impl_minQ u1 u1.heap.size (Nat.le_refl _) (HC2.out _ HS1.out) qx) ?_);rintro e u2 ⟨z0,z1,z2,rfl,oz,hb2⟩;obtain ⟨zb,zA,zn,zc,zD,zm,zk,rfl,rfl,rfl⟩:=oz.cut;have qz:=oz.in_ (minQ_fit _ _) (Nat.le_refl _);have qx:=qx.up hb2;have hz2:u1.heap.size≤u2.heap.size:=hb2.size;have HS2:=hide (below_then HX hb2);clear HX;have hTT:=below_then hT1 HS2.out;have kRo2:=HBo.out.below HS2.out HBo.out.lt;obtain ⟨⟨to0_2,to1_2,to2_2,to3_2,to4_2,to5_2⟩,fo0_2,fo1_2,fo2_2,fo3_2,fo4_2,fo5_2⟩:=kRo2.facts6;have kRf2:=HBf.out.below HS2.out HBf.out.lt;obtain ⟨tf0_2,tf1_2,tf2_2,ff0_2,ff1_2,ff2_2⟩:=kRf2.facts3;have kR:=kRf2)
       | (go_at_call 28;have HX:=HS0.out;(with_reducible refine Calls.mono (HC1.out _ HS0.out) ?_);rintro e u1 ⟨x0,x1,x2,rfl,ox,hb1⟩;obtain ⟨xb,xA,xn,xc,xD,xm,xk,rfl,rfl,rfl⟩:=ox.cut;have qx:=ox.in_ (hD _) (Nat.le_refl _);have hz1:w1.heap.size≤u1.heap.size:=hb1.size;have HS1:=hide (below_then HX hb1);clear HX;have kRo1:=HBo.out.below HS1.out HBo.out.lt;obtain ⟨⟨to0_1,to1_1,to2_1,to3_1,to4_1,to5_1⟩,fo0_1,fo1_1,fo2_1,fo3_1,fo4_1,fo5_1⟩:=kRo1.facts6;have kRf1:=HBf.out.below HS1.out HBf.out.lt;obtain ⟨tf0_1,tf1_1,tf2_1,ff0_1,ff1_1,ff2_1⟩:=kRf1.facts3))
    all_goals
     have HV:=hide (LeastAt.set kR hTT oz.r hd4 (by omega) (Nat.le_refl _))
     have HK:=hide ((((kr.below HS2.out kr.lt).setv (show w.heap.size ≠ gf by omega) 0 (.bool zb)).setv (show w.heap.size ≠ gf by omega) 1 (.slice zA zn zc)).setv (show w.heap.size ≠ gf by omega) 2 (.slice zD zm zk))
     clear kR oz kr kRf1 kRf2
     go_wp2_with fail
     go_roundw
     case rel=>exact ⟨k+1,by omega,by go_num,HK.out,HV.out⟩
     case measure=>simp [intOf];omega
  · obtain rfl:k=1:=by omega
    have HV:=hide (show RRes 3 w (((wr.setCell ⟨w.heap.size,0,none⟩ (.bool ab)).setCell ⟨w.heap.size,1,none⟩ (.slice aA an ac)).setCell ⟨w.heap.size,2,none⟩ (.slice aD am ak)) (.returned (.agg #[.bool ab,.slice aA an ac,.slice aD am ak])) (leastV D 1) from ⟨_,_,_,rfl,(((oa.setv (.inl hd2) 0 _).setv (.inl hd2) 1 _).setv (.inl hd2) 2 _).wider (by omega) (by simp only [setCell_size];exact hd3),((hT0.setCell (p:=⟨w.heap.size,0,none⟩) (Nat.le_refl _) _).setCell (p:=⟨w.heap.size,1,none⟩) (Nat.le_refl _) _).setCell (p:=⟨w.heap.size,2,none⟩) (Nat.le_refl _) _⟩)
    have HKN:Hid (1=2 - 1):=by show _=_;omega
    have hkr:=((kr.set 0 (.bool ab)).set 1 (.slice aA an ac)).set 2 (.slice aD am ak)
    obtain ⟨yf0,yf1,yf2⟩:=kf.cells3
    obtain ⟨s0,s1,s2,g0,g1,g2⟩:=kr.facts3
    go_wp2_with fail
    refine bodyPost_ret (results_cell_row rfl _ _ w.heap.size _ #[.bool ab,.slice aA an ac,.slice aD am ak] (0,0) _ rfl hkr Tryz.underlying27 rfl Tryz.sizeRat) rfl ?_
    exact HV.out
set_option maxRecDepth 100000 in
set_option maxHeartbeats 6400000 in
theorem least_vecs (w:World) (g n c:Nat) (l:List V2) (hn:l.length=n) (hn1:3≤n) (hn2:n≤16) (hnc:n≤c) (hc:∀ i,i < n → w.cell? ⟨g,i * 2,none⟩=some (.int .i64 (atV l i).1)∧w.cell? ⟨g,i * 2+1,none⟩=some (.int .i64 (atV l i).2)) (hg:g < w.heap.size) (p q:Addr) (D:Nat → RQ) (hD:∀ i,QFit (D i)) (HF:∀ (W:World) (i:Nat),Below w.heap.size w W → i < n → Calls Tryz.prog 30 #[.agg #[.int .i64 (atV l i).1,.int .i64 (atV l i).2],.pointer (some p),.pointer (some q)] W fun e w'=>RRes 3 W w' e (D i)) :
 Calls Tryz.prog 29 #[.slice (some ⟨g,0,none⟩) n c,.func (.func 30) #[] #[.pointer (some p),.pointer (some q)]] w fun e w'=>RRes 3 w w' e (leastV D (n - 1)):=by
 have HFF:=hide HF
 have HCC:=hide hc
 clear HF hc
 obtain ⟨W0,hW0⟩:∃ W0,W0=(w.alloc (.cells #[.bool false,.slice none 0 0,.slice none 0 0] 27)):=⟨_,rfl⟩
 have hT0:Below w.heap.size w W0:=by rw [hW0];exact below_new _ _
 have kr:Box W0 (w.heap.size) 27 #[.bool false,.slice none 0 0,.slice none 0 0]:=by rw [hW0];exact Box.last _ _ _ rfl
 have hs0:W0.heap.size=w.heap.size+1:=by rw [hW0,alloc_size]
 go_enter Tryz.func29,Tryz.ntmps29
 go_upto_region 1 with fail
 rw [←hW0]
 clear hW0
 obtain ⟨c1,c2⟩:=HCC.out 0 (by omega)
 have HF0:=hide (HFF.out W0 0 hT0 (by omega))
 generalize (atV l 0).1=b1 at c1 HF0
 generalize (atV l 0).2=b2 at c2 HF0
 have y0:W0.cell? ⟨g,0,none⟩=some (.int .i64 b1):=by have:=(hT0.cell (p:=⟨g,0 * 2,none⟩) hg).trans c1;simpa using this
 have y1:W0.cell? ⟨g,1,none⟩=some (.int .i64 b2):=by have:=(hT0.cell (p:=⟨g,0 * 2+1,none⟩) hg).trans c2;simpa using this
 clear c1 c2
 have HC0:=hide (HF0.out)
 go_wp2_with fail
 refine HC0.out.mono ?_
 rintro e w1 ⟨a0,a1,a2,rfl,oa,hb1⟩
 obtain ⟨ab,aA,an,ac,aD,am,ak,rfl,rfl,rfl⟩:=oa.cut
 clear HC0 y0 y1
 have hs1:=hb1.size
 have hT1:=below_then hT0 hb1
 have kr:=kr.below hb1 kr.lt
 clear hT0
 clear hb1
 obtain ⟨w2,hw2⟩:∃ xw,xw=(w1.alloc (.cells #[.bool ab,.slice aA an ac,.slice aD am ak] 27)):=⟨_,rfl⟩
 have hb2:Below w1.heap.size w1 w2:=by rw [hw2];exact below_new _ _
 have hq2:w2.heap.size=w1.heap.size+1:=by rw [hw2,alloc_size]
 have kf:Box w2 (w1.heap.size) 27 #[.bool ab,.slice aA an ac,.slice aD am ak]:=by rw [hw2];exact Box.last _ _ _ (by omega)
 have hs2:=hb2.size
 have hT2:=below_then hT1 hb2
 have kr:=kr.below hb2 kr.lt
 have oa:=oa.below hb2 (by omega)
 clear hT1
 go_upto_region 2 with fail
 rw [←hw2]
 clear hw2 hb2
 have HL0:Hid (LeastAt w w2 w1.heap.size (leastV D 0) 27 3):=⟨_,_,_,_,_,kf,oa,⟨.inr (by omega),by omega,by omega,by omega⟩,hT2⟩
 have HR0:Hid (Box w2 w.heap.size 27 #[.bool false,.slice none 0 0,.slice none 0 0]):=kr
 have HS1:Hid (w.heap.size < w1.heap.size):=by show _ < _;omega
 clear kf oa kr hT2 hs0 hs1 hs2 hq2
 generalize w1.heap.size=gf at *
 go_wp2_with fail
 go_loopw [16] (fun i wr=>∃ k:Nat,k+1≤n∧i=.int .i64 k∧Box wr w.heap.size 27 #[.bool false,.slice none 0 0,.slice none 0 0]∧LeastAt w wr gf (leastV D k) 27 3) (fun i _=>n - 1 - (intOf i).toNat)
 case atStart=>exact ⟨0,by omega,rfl,HR0.out,HL0.out⟩
 case round =>
  clear HR0 HL0
  obtain ⟨k,hk,rfl,kr,a0,a1,a2,lo,hi,kf,oa,⟨hd1,hd2,hd3,hd4⟩,hT0⟩:=hrel
  obtain ⟨ab,aA,an,ac,aD,am,ak,rfl,rfl,rfl⟩:=oa.cut
  have hs0:=hT0.size
  by_cases hlt:k+1 < n
  · skip
    obtain ⟨c1,c2⟩:=HCC.out (k+1) (by omega)
    have HFK:=hide (fun (W:World) (h:Below w.heap.size w W)=>HFF.out W (k+1) h (by omega))
    generalize (atV l (k+1)).1=x1 at c1 HFK
    generalize (atV l (k+1)).2=x2 at c2 HFK
    have y0:wr.cell? ⟨g,2+k * 2,none⟩=some (.int .i64 x1):=by have:=(hT0.cell (p:=⟨g,(k+1) * 2,none⟩) hg).trans c1;rwa [show (k+1) * 2=2+k * 2 by omega] at this
    have y1:wr.cell? ⟨g,2+k * 2+1,none⟩=some (.int .i64 x2):=by have:=(hT0.cell (p:=⟨g,(k+1) * 2+1,none⟩) hg).trans c2;rwa [show (k+1) * 2+1=2+k * 2+1 by omega] at this
    clear c1 c2
    have hgf:=kf.lt
    obtain ⟨w1,hw1⟩:∃ xw,xw=(wr.alloc (.cells #[.int .i64 x1,.int .i64 x2] 44)):=⟨_,rfl⟩
    have hb1:Below wr.heap.size wr w1:=by rw [hw1];exact below_new _ _
    have hq1:w1.heap.size=wr.heap.size+1:=by rw [hw1,alloc_size]
    have ko:Box w1 (wr.heap.size) 44 #[.int .i64 x1,.int .i64 x2]:=by rw [hw1];exact Box.last _ _ _ (by omega)
    have hs1:=hb1.size
    have hT1:=below_then hT0 hb1
    have kr:=kr.below hb1 kr.lt
    have kf:=kf.below hb1 kf.lt
    have oa:=oa.below hb1 (by omega)
    clear hT0
    go_upto_region 5 with fail
    rw [←hw1]
    clear hw1 hb1
    clear y0 y1
    have hq:QIn w1 w1.heap.size (.bool ab) (.slice aA an ac) (.slice aD am ak) (leastV D k):=oa.in_ (leastV_fit hD k) (by omega)
    have HTW:=hide hT1
    have HC1:=hide (fun (W:World) (h:Below w1.heap.size w1 W)=>HFK.out W (below_then HTW.out h))
    have HC2:=hide (fun (W:World) (h:Below w1.heap.size w1 W)=>(hq.below h).wider h.size)
    clear hq oa HTW
    have HBo:=hide ko
    have HBf:=hide kf
    have HS0:Hid (Below w1.heap.size w1 w1.drew):=(Below.refl _ _).drew
    obtain ⟨yo0,yo1⟩:=ko.cells2
    obtain ⟨yf0,yf1,yf2⟩:=kf.cells3
    go_region_with
     (first
       | (go_at_call 31;have HX:=HS1.out;(with_reducible refine Calls.mono (impl_minQ u1 u1.heap.size (Nat.le_refl _) (HC2.out _ HS1.out) qx) ?_);rintro e u2 ⟨z0,z1,z2,rfl,oz,hb2⟩;obtain ⟨zb,zA,zn,zc,zD,zm,zk,rfl,rfl,rfl⟩:=oz.cut;have qz:=oz.in_ (minQ_fit _ _) (Nat.le_refl _);have qx:=qx.up hb2;have hz2:u1.heap.size≤u2.heap.size:=hb2.size;have HS2:=hide (below_then HX hb2);clear HX;have hTT:=below_then hT1 HS2.out;have kRo2:=HBo.out.below HS2.out HBo.out.lt;obtain ⟨to0_2,to1_2,fo0_2,fo1_2⟩:=kRo2.facts;have kRf2:=HBf.out.below HS2.out HBf.out.lt;obtain ⟨tf0_2,tf1_2,tf2_2,ff0_2,ff1_2,ff2_2⟩:=kRf2.facts3;have kR:=kRf2)
       | (go_at_call 30;have HX:=HS0.out;(with_reducible refine Calls.mono (HC1.out _ HS0.out) ?_);rintro e u1 ⟨x0,x1,x2,rfl,ox,hb1⟩;obtain ⟨xb,xA,xn,xc,xD,xm,xk,rfl,rfl,rfl⟩:=ox.cut;have qx:=ox.in_ (hD _) (Nat.le_refl _);have hz1:w1.heap.size≤u1.heap.size:=hb1.size;have HS1:=hide (below_then HX hb1);clear HX;have kRo1:=HBo.out.below HS1.out HBo.out.lt;obtain ⟨to0_1,to1_1,fo0_1,fo1_1⟩:=kRo1.facts;have kRf1:=HBf.out.below HS1.out HBf.out.lt;obtain ⟨tf0_1,tf1_1,tf2_1,ff0_1,ff1_1,ff2_1⟩:=kRf1.facts3))
    all_goals
     have HV:=hide (LeastAt.set kR hTT oz.r hd4 (by omega) (Nat.le_refl _))
     have HK:=hide ((((kr.below HS2.out kr.lt).setv (show w.heap.size ≠ gf by omega) 0 (.bool zb)).setv (show w.heap.size ≠ gf by omega) 1 (.slice zA zn zc)).setv (show w.heap.size ≠ gf by omega) 2 (.slice zD zm zk))
     clear kR oz kr kRf1 kRf2
     go_wp2_with fail
     go_roundw
     case rel=>exact ⟨k+1,by omega,by go_num,HK.out,HV.out⟩
     case measure=>simp [intOf];omega
  · obtain rfl:n=k+1:=by omega
    have HV:=hide (show RRes 3 w (((wr.setCell ⟨w.heap.size,0,none⟩ (.bool ab)).setCell ⟨w.heap.size,1,none⟩ (.slice aA an ac)).setCell ⟨w.heap.size,2,none⟩ (.slice aD am ak)) (.returned (.agg #[.bool ab,.slice aA an ac,.slice aD am ak])) (leastV D k) from ⟨_,_,_,rfl,(((oa.setv (.inl hd2) 0 _).setv (.inl hd2) 1 _).setv (.inl hd2) 2 _).wider (by omega) (by simp only [setCell_size];exact hd3),((hT0.setCell (p:=⟨w.heap.size,0,none⟩) (Nat.le_refl _) _).setCell (p:=⟨w.heap.size,1,none⟩) (Nat.le_refl _) _).setCell (p:=⟨w.heap.size,2,none⟩) (Nat.le_refl _) _⟩)
    have HKN:Hid (k=k+1 - 1):=by show _=_;omega
    have hkr:=((kr.set 0 (.bool ab)).set 1 (.slice aA an ac)).set 2 (.slice aD am ak)
    obtain ⟨yf0,yf1,yf2⟩:=kf.cells3
    obtain ⟨s0,s1,s2,g0,g1,g2⟩:=kr.facts3
    go_wp2_with fail
    refine bodyPost_ret (results_cell_row rfl _ _ w.heap.size _ #[.bool ab,.slice aA an ac,.slice aD am ak] (0,0) _ rfl hkr Tryz.underlying27 rfl Tryz.sizeRat) rfl ?_
    rw [←HKN.out];exact HV.out
end Go.Proofs.YtafhhemojdblpaaGreat
