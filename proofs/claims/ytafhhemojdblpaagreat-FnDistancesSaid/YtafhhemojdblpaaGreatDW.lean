/-
  The texts PtD0, SegW3, put together; each has its own heading below. No condition of ours.
-/
import Derived.Test.YtafhhemojdblpaaGreatVD
import Derived.Test.YtafhhemojdblpaaGreatSGV
import Derived.Test.YtafhhemojdblpaaGreatPR
import Derived.Test.YtafhhemojdblpaaGreatLB
import Derived.IntWalk
import Derived.Deep.RegionWith
import Derived.Test.YtafhhemojdblpaaGreatSegL
import Derived.Test.YtafhhemojdblpaaGreatPtI5
import Derived.Test.YtafhhemojdblpaaGreatPD
import Derived.Deep.RegionHeld3
import Derived.Deep.RegionLaw
import Derived.Deep.CutRange
import Derived.Sort.AtCall
/-
  The laws' points, in a seat without texts: what the reference's draws make.
-/
namespace Go.Proofs.YtafhhemojdblpaaGreat
open Go.RowKit
set_option linter.unusedVariables false
set_option maxHeartbeats 400000 in
theorem l01Once_s (G n c m:Nat) (A:Option Addr) (B:Nat) (w:World) (hn:n≤1099511627776) (hm:1≤m) (hm2:m≤1000000000000) (hc:CurAt w G A n c) (hb:Bytes w B A n) (hB:B≤G) :
 Calls Tryz.prog 58 #[.pointer (some ⟨G,0,none⟩),.int .i64 m] w fun e w'=>∃ b,e=.returned (.bool b)∧CurAt w' G A n c∧Only G w w':=by
 go_enter Tryz.func58,Tryz.ntmps58
 go_wp2_with fail
 refine (l01Below_any G n c m A B w hn hm hm2 hc hb hB).mono ?_
 rintro e w1 ⟨r,rfl,hr,hc1,ho⟩
 have HC:=hide hc1
 have HO:=hide ho
 clear hc1 ho hc hb
 go_wp2_with fail
 go_ret
 exact ⟨_,rfl,HC.out,HO.out⟩
theorem belowAsidesS {w w1:World} (h:Below w.heap.size w w1) (lo hi:Nat):Aside lo hi w w1:=⟨h.os,h.tape,h.output,h.size,fun k hk _=>h.block k hk⟩
theorem aside_belowS {w w1 w2:World} {lo hi:Nat} (h:Aside lo hi w w1) (hb:Below w1.heap.size w1 w2):Aside lo hi w w2 :=
 ⟨hb.os.trans h.os,hb.tape.trans h.tape,hb.output.trans h.output,Nat.le_trans h.size hb.size,fun k hk hd=>(hb.block k (Nat.lt_of_lt_of_le hk h.size)).trans (h.block k hk hd)⟩
theorem draw_end6S {w W:World} {G g lo hi:Nat} {E F:TypeId} {x0 x1 x2 x3 x4 x5 v0 v1 v2 v3 v4 v5:Value} {P:PQ} (k:Box W g E #[x0,x1,x2,x3,x4,x5]) (o:POwn W lo hi F v0 v1 v2 v3 v4 v5 P) (ha:Aside G (G+1) w W) (hg:w.heap.size≤g) (hl:w.heap.size≤lo) (hh:hi≤W.heap.size) (hd:g < lo ∨ hi≤g) :
 Box ((((((W.setCell ⟨g,0,none⟩ v0).setCell ⟨g,1,none⟩ v1).setCell ⟨g,2,none⟩ v2).setCell ⟨g,3,none⟩ v3).setCell ⟨g,4,none⟩ v4).setCell ⟨g,5,none⟩ v5) g E #[v0,v1,v2,v3,v4,v5]∧POwn ((((((W.setCell ⟨g,0,none⟩ v0).setCell ⟨g,1,none⟩ v1).setCell ⟨g,2,none⟩ v2).setCell ⟨g,3,none⟩ v3).setCell ⟨g,4,none⟩ v4).setCell ⟨g,5,none⟩ v5) w.heap.size ((((((W.setCell ⟨g,0,none⟩ v0).setCell ⟨g,1,none⟩ v1).setCell ⟨g,2,none⟩ v2).setCell ⟨g,3,none⟩ v3).setCell ⟨g,4,none⟩ v4).setCell ⟨g,5,none⟩ v5).heap.size F v0 v1 v2 v3 v4 v5 P∧Aside G (G+1) w ((((((W.setCell ⟨g,0,none⟩ v0).setCell ⟨g,1,none⟩ v1).setCell ⟨g,2,none⟩ v2).setCell ⟨g,3,none⟩ v3).setCell ⟨g,4,none⟩ v4).setCell ⟨g,5,none⟩ v5) :=
 ⟨(((((k.set 0 _).set 1 _).set 2 _).set 3 _).set 4 _).set 5 _,((((((o.setv hd 0 _).setv hd 1 _).setv hd 2 _).setv hd 3 _).setv hd 4 _).setv hd 5 _).wider hl (by simp only [setCell_size];exact hh),aside_set_newS (aside_set_newS (aside_set_newS (aside_set_newS (aside_set_newS (aside_set_newS ha hg _) hg _) hg _) hg _) hg _) hg _⟩
theorem intQ_10 (a:Int) (ha:a.natAbs≤10):IsV (intQ a) (a:Rat) 10:=by
 have hp:(10:Nat) < 1000000000 ^ 24:=by decide +kernel
 refine ⟨a,1,?_,by grind⟩
 rw [intQ_low a (by omega)];exact low_S (by decide) ha (by decide) hp
theorem pt_drawS (a b:Int) (ha:a.natAbs≤10) (hb:b.natAbs≤10):IsV (vecP a b).1 ((a:Rat) / ((1:Nat):Rat)) 41∧IsV (vecP a b).2 (b:Rat) 10∧(a.natAbs≤41∧0 < 1∧1≤4)∧b.natAbs≤10:=by
 refine ⟨?_,intQ_10 b hb,⟨by omega,by omega,by omega⟩,hb⟩
 have:=(intQ_10 a ha).mono (C:=41) (by omega)
 rw [show ((a:Rat) / ((1:Nat):Rat))=(a:Rat) by grind]
 exact this
theorem pt_draw2S (a b:Int) (m:Nat) (ha:a.natAbs≤10) (hb:b.natAbs≤10) (hm:2≤m∧m≤4):IsV (addQ (intQ a) (ofQ 1 m)) (((a * m+1 * (1:Nat):Int):Rat) / ((1 * m:Nat):Rat)) 41∧IsV (intQ b) (b:Rat) 10∧((a * m+1 * (1:Nat)).natAbs≤41∧0 < 1 * m∧1 * m≤4)∧b.natAbs≤10:=by
 have hp:(1000:Nat) < 1000000000 ^ 24:=by decide +kernel
 have hB:2 * (10 * 4) < 1000000000 ^ 24:=by decide +kernel
 have h1:IsS (intQ a) a 1 10:=by rw [intQ_low a (by omega)];exact low_S (by decide) ha (by decide) (by omega)
 have h2:IsS (ofQ 1 m) 1 m 4:=by rw [ofQ_low 1 m (by decide) (by omega) (by omega)];exact low_S (by omega) (by decide) (by omega) (by omega)
 obtain ⟨s1,s2,s3⟩:=h1.add h2 hB
 have hb1:(a * m+1 * (1:Nat)).natAbs≤41:=by
  have e:(a * (m:Int)).natAbs≤10 * 4:=ab_mul ha (by simpa using hm.2)
  omega
 exact ⟨⟨_,_,⟨s1,hb1,by omega⟩,rfl⟩,intQ_10 b hb,⟨hb1,by omega,by omega⟩,hb⟩
/-- a small point of one's own -/
def PtDrawS (TI:TypeId) (w w':World) (e:Ending):Prop :=
 ∃ (P:PQ) (x:Int) (d:Nat) (y:Int) (v0 v1 v2 v3 v4 v5:Value),e=.returned (.agg #[v0,v1,v2,v3,v4,v5])∧POwn w' w.heap.size w'.heap.size TI v0 v1 v2 v3 v4 v5 P∧(IsV P.1 ((x:Rat) / (d:Rat)) 41∧IsV P.2 (y:Rat) 10∧(x.natAbs≤41∧0 < d∧d≤4)∧y.natAbs≤10)
set_option maxRecDepth 100000 in
set_option maxHeartbeats 6400000 in
theorem l05Point_s (G n c:Nat) (A:Option Addr) (B:Nat) (w:World) (hn:n≤1099511627776) (hc:CurAt w G A n c) (hb:Bytes w B A n) (hB:B≤G) :
 Calls Tryz.prog 23 #[.pointer (some ⟨G,0,none⟩)] w fun e w'=>PtDrawS 3 w w' e∧Aside G (G+1) w w':=by
 have hGw:=hc.lt
 obtain ⟨w0,hw0⟩:∃ x,x=w.alloc (.cells #[.bool false,.slice none 0 0,.slice none 0 0,.bool false,.slice none 0 0,.slice none 0 0] 29):=⟨_,rfl⟩
 have hb0:Below w.heap.size w w0:=by rw [hw0];exact below_new _ _
 have ha0:Aside G (G+1) w w0:=by rw [hw0];exact alloc_asideS w _ G (G+1)
 have kr:Box w0 w.heap.size 29 #[.bool false,.slice none 0 0,.slice none 0 0,.bool false,.slice none 0 0,.slice none 0 0]:=by rw [hw0];exact Box.last _ _ _ rfl
 have hs0:w0.heap.size=w.heap.size+1:=by rw [hw0,alloc_size]
 have hc0:=hc.below hb0 hGw
 have hbb0:=hb.below (hb0.mono (by omega))
 have HO1:=hide (l05Vec_s G n c A B w0 hn hc0 hbb0 hB)
 clear hc hb hb0 hc0
 go_enter Tryz.func23,Tryz.ntmps23
 go_upto_region 1 with fail
 rw [←hw0]
 clear hw0
 go_wp2_with fail
 refine HO1.out.mono ?_
 rintro e w1 ⟨x,y,rfl,hxy,hc1,ha1⟩
 have kr:=kr.aside ha1 (.inr (by omega))
 have hs1:=ha1.size
 have hbb1:=hbb0.below (ha1.below hB (by omega))
 have ha1:=ha0.trans ha1
 have hx:(Lit.int .i64 x).wf=true:=wf_of (by omega) (by omega)
 have hy:(Lit.int .i64 y).wf=true:=wf_of (by omega) (by omega)
 have HXY:=hide hxy
 clear HO1 ha0 hbb0 hxy
 go_wp2_with fail
 refine (spec_PointOf w1 x y hx hy).mono ?_
 rintro e w2 ⟨p0,p1,p2,p3,p4,p5,rfl,op,hb2⟩
 obtain ⟨pb,pA,pn,pc,pD,pm,pk,pyb,pyA,pyn,pyc,pyD,pym,pyk,rfl,rfl,rfl,rfl,rfl,rfl⟩:=op.cut
 have kr:=kr.below hb2 kr.lt
 have hs2:=hb2.size
 have ha2:=aside_belowS ha1 hb2
 have hc2:=hc1.below hb2 hc1.lt
 have hbb2:=hbb1.below (hb2.mono (by omega))
 clear hc1 hbb1 ha1 hb2
 obtain ⟨w3,hw3⟩:∃ x,x=w2.alloc (.cells #[.bool pb,.slice pA pn pc,.slice pD pm pk,.bool pyb,.slice pyA pyn pyc,.slice pyD pym pyk] 29):=⟨_,rfl⟩
 have hb3:Below w2.heap.size w2 w3:=by rw [hw3];exact below_new _ _
 have kp:Box w3 w2.heap.size 29 #[.bool pb,.slice pA pn pc,.slice pD pm pk,.bool pyb,.slice pyA pyn pyc,.slice pyD pym pyk]:=by rw [hw3];exact Box.last _ _ _ rfl
 have hs3:=hb3.size
 have hq3:w3.heap.size=w2.heap.size+1:=by rw [hw3,alloc_size]
 have kr:=kr.below hb3 kr.lt
 have op:=op.below hb3 (Nat.le_refl _)
 have ha3:=aside_belowS ha2 hb3
 have hc3:=hc2.below hb3 hc2.lt
 have hbb3:=hbb2.below (hb3.mono (by omega))
 have HQ3:=hide hq3
 have HS0:=hide hs0
 clear hc2 hbb2 ha2 hb3 hq3 hs0
 have HO3:=hide (l01Once_s G n c 3 A B w3 hn (by omega) (by omega) hc3 hbb3 hB)
 go_upto_region 2 with fail
 rw [←hw3]
 clear hw3
 go_wp2_with fail
 refine HO3.out.mono ?_
 rintro e w4 ⟨bb,rfl,hc4,ho4⟩
 have h0:=HS0.out
 have h3:=HQ3.out
 have kr:=kr.aside (Only.asideS ho4) (.inr (by omega))
 have kp:=kp.aside (Only.asideS ho4) (.inr (by omega))
 have op:=op.aside (Only.asideS ho4) (.inr (by omega))
 have hz4:w4.heap.size=w3.heap.size:=ho4.2
 have ha4:=ha3.trans (Only.asideS ho4)
 have hbb4:=hbb3.below (ho4.below hB (by omega))
 have HS4:=hide hz4
 clear HO3 hc3 hbb3 ha3 ho4
 cases bb
 · have op:=op.wider (lo':=w0.heap.size) (hi':=w2.heap.size) (by omega) (Nat.le_refl _)
   have HE:=hide (draw_end6S kr op ha4 (Nat.le_refl _) (by omega) (by omega) (.inl (by omega)))
   obtain ⟨yp0,yp1,yp2,yp3,yp4,yp5⟩:=kp.cells6
   obtain ⟨⟨t0,t1,t2,t3,t4,t5⟩,f0,f1,f2,f3,f4,f5⟩:=kr.facts6
   clear kr kp op ha4 hc4 hbb4 h0 h3 hz4 HS0 HQ3 HS4
   go_wp2_with fail
   refine bodyPost_ret (results_cell_row rfl _ _ w.heap.size _ #[.bool pb,.slice pA pn pc,.slice pD pm pk,.bool pyb,.slice pyA pyn pyc,.slice pyD pym pyk] (0,0) _ rfl HE.out.1 Tryz.underlying29 rfl Tryz.sizePoint) rfl ?_
   exact ⟨⟨vecP x y,x,1,y,_,_,_,_,_,_,rfl,HE.out.2.1,pt_drawS x y HXY.out.1 HXY.out.2⟩,HE.out.2.2⟩
 · obtain ⟨l1,h1,l2,h2,oX,oY,b1,b2,b3,b4,hdj⟩:=op
   have hG0:G+1≤w0.heap.size:=by omega
   have HC:=hide (show CurAt w4.drew G A n c from hc4)
   have HB:=hide (show Bytes w4.drew B A n from hbb4)
   have HKP:=hide kp.drew
   have HKR:=hide kr.drew
   have HOX:=hide (oX.below ((Below.refl w4.heap.size w4).drew) (show h1≤w4.heap.size by omega))
   have HOY:=hide (oY.below ((Below.refl w4.heap.size w4).drew) (show h2≤w4.heap.size by omega))
   have HA4:=hide (ha4.trans (belowAsidesS ((Below.refl w4.heap.size w4).drew) G (G+1)))
   have hsd:w4.drew.heap.size=w3.heap.size:=hz4
   have HSD:=hide hsd
   obtain ⟨yp0,yp1,yp2,yp3,yp4,yp5⟩:=kp.cells6
   clear kr kp oX oY ha4 hc4 hbb4 hz4 HS4 h0 h3 hsd
   go_upto_region 3 with fail
   go_region_with (first
    | (go_at_call 59;refine (spec_addQ _ _ (Nat.le_refl _) qX qx).mono ?_;rintro e u3 ⟨z0,z1,z2,rfl,oz,hb7⟩;obtain ⟨zb,zA,zn,zc,zD,zm,zk,rfl,rfl,rfl⟩:=oz.cut;have kp3:=HKP2.out.below hb7 HKP2.out.lt;obtain ⟨⟨t0,t1,t2,t3,t4,t5⟩,f0,f1,f2,f3,f4,f5⟩:=kp3.facts6;have HKP3:=hide kp3;clear kp3)
    | (go_at_call 60;refine (spec_ofQ _ 1 (2+(r:Int)) rfl (wf_of (by omega) (by omega))).mono ?_;rintro e u2 ⟨x0,x1,x2,rfl,ox,hb6⟩;obtain ⟨xb,xA,xn,xc,xD,xm,xk,rfl,rfl,rfl⟩:=ox.cut;have kp2:=HKP1.out.below hb6 HKP1.out.lt;obtain ⟨yp0,yp1,yp2,yp3,yp4,yp5⟩:=kp2.cells6;have qx:=ox.in_ (ofQ_fit _ _) (Nat.le_refl _);have qX:=(HOX1.out.below hb6 (show h1≤_ by have:=HS1.out;omega)).in_ (intQ_fit _) (show h1≤u2.heap.size by have:=hb6.size;have:=HS1.out;omega);have HKP2:=hide kp2;clear kp2)
    | (go_at_call 61;refine (l01Below_any G n c 3 A B _ hn (by omega) (by omega) HC.out HB.out hB).mono ?_;rintro e u1 ⟨r,rfl,hr,hc5,ho5⟩;have HS1:Hid (u1.heap.size=w3.heap.size):=(ho5.2.trans HSD.out);have kp1:=HKP.out.aside (Only.asideS ho5) (.inr (by omega));obtain ⟨yp0,yp1,yp2,yp3,yp4,yp5⟩:=kp1.cells6;have HOX1:=hide (HOX.out.aside (Only.asideS ho5) (.inr (by omega)));have HOY1:=hide (HOY.out.aside (Only.asideS ho5) (.inr (by omega)));have HKR1:=hide (HKR.out.aside (Only.asideS ho5) (.inr (by omega)));have HA5:=hide (HA4.out.trans (Only.asideS ho5));have HKP1:=hide kp1;have hwr:IntKind.i64.wrap (2+(r:Int))=2+(r:Int):=IntWalk.i64_in _ (by omega);clear kp1 hc5 ho5))
   all_goals
    have h0:=HS0.out
    have h3:=HQ3.out
    have hS1:=HS1.out
    have hS2:=hb6.size
    have hS3:=hb7.size
    have eR:2+(r:Int)=((2+r:Nat):Int):=by omega
    rw [eR] at oz
    obtain ⟨w8,hw8⟩:∃ xw,xw=((u3.setCell ⟨w2.heap.size,0,none⟩ (.bool zb)).setCell ⟨w2.heap.size,1,none⟩ (.slice zA zn zc)).setCell ⟨w2.heap.size,2,none⟩ (.slice zD zm zk):=⟨_,rfl⟩
    have kp8:Box w8 w2.heap.size 29 #[.bool zb,.slice zA zn zc,.slice zD zm zk,.bool pyb,.slice pyA pyn pyc,.slice pyD pym pyk]:=by rw [hw8];exact ((HKP3.out.set 0 _).set 1 _).set 2 _
    have oz8:QOwn w8 u2.heap.size u3.heap.size 3 (.bool zb) (.slice zA zn zc) (.slice zD zm zk) (addQ (intQ x) (ofQ 1 ((2+r:Nat):Int))):=by rw [hw8];exact ((oz.setv (.inl (by omega)) 0 _).setv (.inl (by omega)) 1 _).setv (.inl (by omega)) 2 _
    have oy7:=(HOY1.out.below hb6 (show h2≤u1.heap.size by omega)).below hb7 (show h2≤u2.heap.size by omega)
    have oy8:QOwn w8 l2 h2 3 (.bool pyb) (.slice pyA pyn pyc) (.slice pyD pym pyk) (intQ y):=by rw [hw8];exact ((oy7.setv (.inr (by omega)) 0 _).setv (.inr (by omega)) 1 _).setv (.inr (by omega)) 2 _
    have kr7:=(HKR1.out.below hb6 HKR1.out.lt).below hb7 (Nat.lt_of_lt_of_le HKR1.out.lt hS2)
    have kr8:Box w8 w.heap.size 29 #[.bool false,.slice none 0 0,.slice none 0 0,.bool false,.slice none 0 0,.slice none 0 0]:=by rw [hw8];exact ((kr7.setv (show w.heap.size ≠ w2.heap.size by omega) 0 _).setv (show w.heap.size ≠ w2.heap.size by omega) 1 _).setv (show w.heap.size ≠ w2.heap.size by omega) 2 _
    have hS8:w8.heap.size=u3.heap.size:=by rw [hw8,setCell_size,setCell_size,setCell_size]
    have ha7:=aside_belowS (aside_belowS HA5.out hb6) hb7
    have ha8:Aside G (G+1) w w8:=by rw [hw8];exact aside_set_newS (aside_set_newS (aside_set_newS ha7 (show w.heap.size≤w2.heap.size by omega) _) (show w.heap.size≤w2.heap.size by omega) _) (show w.heap.size≤w2.heap.size by omega) _
    have op8:POwn w8 w0.heap.size w8.heap.size 3 (.bool zb) (.slice zA zn zc) (.slice zD zm zk) (.bool pyb) (.slice pyA pyn pyc) (.slice pyD pym pyk) (addQ (intQ x) (ofQ 1 ((2+r:Nat):Int)),intQ y):=⟨_,_,_,_,oz8,oy8,by omega,by omega,by omega,by omega,.inr (by omega)⟩
    have HE:=hide (draw_end6S kr8 op8 ha8 (Nat.le_refl _) (by omega) (Nat.le_refl _) (.inl (by omega)))
    have HP8:=hide kp8
    have HR8:=hide kr8
    have HW8:=hide hw8
    clear kp8 oz8 oy7 oy8 kr7 kr8 ha7 ha8 op8 hw8 h0 h3 hS1 hS2 hS3 hS8 eR HS0 HQ3 HS1 HSD hwr
    go_upto_region 4 with fail
    rw [←HW8.out]
    obtain ⟨yq0,yq1,yq2,yq3,yq4,yq5⟩:=HP8.out.cells6
    obtain ⟨⟨s0,s1,s2,s3,s4,s5⟩,g0,g1,g2,g3,g4,g5⟩:=HR8.out.facts6
    go_wp2_with fail
    refine bodyPost_ret (results_cell_row rfl _ _ w.heap.size _ #[.bool zb,.slice zA zn zc,.slice zD zm zk,.bool pyb,.slice pyA pyn pyc,.slice pyD pym pyk] (0,0) _ rfl HE.out.1 Tryz.underlying29 rfl Tryz.sizePoint) rfl ?_
    exact ⟨⟨_,_,_,_,_,_,_,_,_,_,rfl,HE.out.2.1,pt_draw2S x y (2+r) HXY.out.1 HXY.out.2 ⟨by omega,by omega⟩⟩,HE.out.2.2⟩
set_option maxRecDepth 100000 in
set_option maxHeartbeats 1600000 in
theorem MakePoint_s (n c B:Nat) (A:Option Addr) (k:Nat) (hk:k≤1000) (w:World) (hn:n≤1099511627776) (hb:Bytes w B A n) (hB:B≤w.heap.size) :
 Calls Tryz.prog 5 #[.slice A n c,.int .i64 k] w fun e w'=>PtDrawS 3 w w' e∧Below w.heap.size w w':=by
 obtain ⟨K,hK⟩:∃ K:Nat,K=4 * k:=⟨_,rfl⟩
 have hKe:4 * (k:Int)=(K:Int):=by omega
 have hb0:=below_new w (.cells #[.bool false,.slice none 0 0,.slice none 0 0,.bool false,.slice none 0 0,.slice none 0 0] 29)
 have k0:=Box.last w 29 #[.bool false,.slice none 0 0,.slice none 0 0,.bool false,.slice none 0 0,.slice none 0 0] rfl
 have hs0:=alloc_size w (.cells #[.bool false,.slice none 0 0,.slice none 0 0,.bool false,.slice none 0 0,.slice none 0 0] 29)
 have hbb0:=hb.below (hb0.mono hB)
 have HL:=hide (l31New_any n c B K A _ hn (by omega) hbb0 (show B≤(w.alloc (.cells #[.bool false,.slice none 0 0,.slice none 0 0,.bool false,.slice none 0 0,.slice none 0 0] 29)).heap.size by omega))
 rw [hs0] at HL
 clear hK
 go_enter Tryz.func5,Tryz.ntmps5
 go_wp2_with fail
 refine HL.out.mono ?_
 rintro e w1 ⟨rfl,hc1,hb1,hs1⟩
 have hb1':Below w.heap.size w w1:=hb0.trans (hb1.mono (Nat.le_succ _))
 have k1:=k0.below hb1 (Nat.lt_succ_self _)
 have HN:=hide (l05Point_s (w.heap.size+1) n c A B w1 hn hc1 (hb.below (hb1'.mono hB)) (by omega))
 have HS:=hide hs1
 clear hs1 hc1 hb1 HL hb hbb0 k0 hb0 hs0
 go_wp2_with fail
 refine HN.out.mono ?_
 rintro e w2 ⟨⟨P,x,d,y,v0,v1,v2,v3,v4,v5,rfl,o2,hP⟩,ha⟩
 obtain ⟨vb,vA,vn,vc,vD,vm,vk,vyb,vyA,vyn,vyc,vyD,vym,vyk,rfl,rfl,rfl,rfl,rfl,rfl⟩:=o2.cut
 have hs1:=HS.out
 have hs2:=ha.size
 have hb2':=hb1'.trans (ha.below (show w.heap.size≤w.heap.size+1 by omega) (by omega))
 have k2:=k1.aside ha (.inl (Nat.lt_succ_self _))
 have HE:=hide (ret_pt k2 o2 hb2' (Nat.le_refl _) (by omega) (Nat.le_refl _) (.inl (by omega)))
 obtain ⟨⟨t0,t1,t2,t3,t4,t5⟩,f0,f1,f2,f3,f4,f5⟩:=k2.facts6
 have HPP:=hide hP
 clear hs1 hs2 hb2' k2 k1 hb1' ha o2 hP HN
 go_wp2_with fail
 refine bodyPost_ret (results_cell_row rfl _ _ w.heap.size _ #[.bool vb,.slice vA vn vc,.slice vD vm vk,.bool vyb,.slice vyA vyn vyc,.slice vyD vym vyk] (0,0) _ rfl HE.out.1 Tryz.underlying29 rfl Tryz.sizePoint) rfl ?_
 exact ⟨⟨P,x,d,y,_,_,_,_,_,_,rfl,HE.out.2.1,HPP.out⟩,HE.out.2.2⟩
end Go.Proofs.YtafhhemojdblpaaGreat
/-
  The law FnSegments: its walk.
-/
namespace Go.Proofs.YtafhhemojdblpaaGreat
open Go.RowKit
set_option linter.unusedVariables false
theorem MakeSmall0 (n c B:Nat) (A:Option Addr) (w:World) (hn:n≤1099511627776) (hb:Bytes w B A n) (hB:B≤w.heap.size) :
 Calls Tryz.prog 5 #[.slice A n c,.int .i64 0] w fun e w'=>PtDrawS 3 w w' e∧Below w.heap.size w w' :=
 MakePoint_s n c B A 0 (by omega) w hn hb hB
theorem MakeSmall1 (n c B:Nat) (A:Option Addr) (w:World) (hn:n≤1099511627776) (hb:Bytes w B A n) (hB:B≤w.heap.size) :
 Calls Tryz.prog 5 #[.slice A n c,.int .i64 1] w fun e w'=>PtDrawS 3 w w' e∧Below w.heap.size w w' :=
 MakePoint_s n c B A 1 (by omega) w hn hb hB
end Go.Proofs.YtafhhemojdblpaaGreat
