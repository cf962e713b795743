/-
  The program's segments: ranges, validity.
-/
import Derived.Test.YtafhhemojdblpaaGreatSGA
import Derived.Test.YtafhhemojdblpaaGreatSegP
import Derived.Test.YtafhhemojdblpaaGreatQR
import Derived.Test.YtafhhemojdblpaaGreatRX
import Derived.Test.YtafhhemojdblpaaGreatPI
import Derived.Deep.RegionHeld3
import Derived.Deep.CutRange
import Derived.Sort.AtCall
namespace Go.Proofs.YtafhhemojdblpaaGreat
open Go.RowKit
set_option linter.unusedVariables false
def cmpQ (Z Y:RQ):Int:=cmpW Z.1.1 Z.1.2 Z.2 Y.1.1 Y.1.2 Y.2
def lowQ (Z Y:RQ):RQ:=if cmpQ Y Z < 0 then Y else Z
def highQ (Z Y:RQ):RQ:=if 0 < cmpQ Y Z then Y else Z
def rangesB (Z Y X V:RQ):Bool:=decide (cmpQ (lowQ Z Y) (highQ X V)≤0) && decide (cmpQ (lowQ X V) (highQ Z Y)≤0)
theorem low_ok {Z Y:RQ} (h:ratQ Z=true) (k:ratQ Y=true):ratQ (lowQ Z Y)=true:=by unfold lowQ;split <;> assumption
theorem high_ok {Z Y:RQ} (h:ratQ Z=true) (k:ratQ Y=true):ratQ (highQ Z Y)=true:=by unfold highQ;split <;> assumption
theorem ratQ_fit {Z:RQ} (h:ratQ Z=true):QFit Z:=ratB_wf h
theorem impl_lowQ (w:World) (B:Nat) (hB:B≤w.heap.size) {v0 v1 v2:Value} {Z:RQ} (h:QIn w B v0 v1 v2 Z) (hz:ratQ Z=true) {u0 u1 u2:Value} {Y:RQ} (h':QIn w B u0 u1 u2 Y) (hy:ratQ Y=true) :
 Calls Tryz.prog 67 #[.agg #[v0,v1,v2],.agg #[u0,u1,u2]] w fun e w'=>QRes 3 w w' e (lowQ Z Y):=by
 obtain ⟨A,n,c,D,m,k,rfl,rfl,rfl,r1,r2,c1,c2⟩:=h
 obtain ⟨A',n',c',D',m',k',rfl,rfl,rfl,r1',r2',c1',c2'⟩:=h'
 exact (impl_ratSmaller w B hB Z.1.1 A n c Z.1.2 r1 D m k Z.2 r2 hz Y.1.1 A' n' c' Y.1.2 r1' D' m' k' Y.2 r2' hy).mono fun e w' h=>QRes.of h
theorem impl_highQ (w:World) (B:Nat) (hB:B≤w.heap.size) {v0 v1 v2:Value} {Z:RQ} (h:QIn w B v0 v1 v2 Z) (hz:ratQ Z=true) {u0 u1 u2:Value} {Y:RQ} (h':QIn w B u0 u1 u2 Y) (hy:ratQ Y=true) :
 Calls Tryz.prog 86 #[.agg #[v0,v1,v2],.agg #[u0,u1,u2]] w fun e w'=>QRes 3 w w' e (highQ Z Y):=by
 obtain ⟨A,n,c,D,m,k,rfl,rfl,rfl,r1,r2,c1,c2⟩:=h
 obtain ⟨A',n',c',D',m',k',rfl,rfl,rfl,r1',r2',c1',c2'⟩:=h'
 exact (impl_ratGreater w B hB Z.1.1 A n c Z.1.2 r1 D m k Z.2 r2 hz Y.1.1 A' n' c' Y.1.2 r1' D' m' k' Y.2 r2' hy).mono fun e w' h=>QRes.of h
theorem impl_cmpQ (w:World) (B:Nat) (hB:B≤w.heap.size) {v0 v1 v2:Value} {Z:RQ} (h:QIn w B v0 v1 v2 Z) (hz:ratQ Z=true) {u0 u1 u2:Value} {Y:RQ} (h':QIn w B u0 u1 u2 Y) (hy:ratQ Y=true) :
 Calls Tryz.prog 40 #[.agg #[v0,v1,v2],.agg #[u0,u1,u2]] w fun e w'=>e=.returned (.int .i64 (cmpQ Z Y))∧Below w.heap.size w w':=by
 obtain ⟨A,n,c,D,m,k,rfl,rfl,rfl,r1,r2,c1,c2⟩:=h
 obtain ⟨A',n',c',D',m',k',rfl,rfl,rfl,r1',r2',c1',c2'⟩:=h'
 exact impl_ratCompare w B hB Z.1.1 A n c Z.1.2 r1 D m k Z.2 r2 hz Y.1.1 A' n' c' Y.1.2 r1' D' m' k' Y.2 r2' hy
theorem takeTQ {P:Program} {ops:Array Oper} {Q:Exit → Act → World → Prop} {md:Region.Mode} {S:World → Prop} {i t:Nat} {oi:Oper} {v:Value} {fuel:Nat} {listed:Array Bool} {a:Act} {w:World} (hi:ops[i]?=some oi)
 (hs:Region.noSelect ops=true) (hf:Region.free md ops listed i=true) (hr:(Region.ready md ops listed).contains i=true)
 (hQ:∀ c a w,Q (.panic c) (a.put oi.dst v) w → Q (.panic c) a w) (hd:oi.dst=some t) (hw:Region.wanted oi (yielded ops a.tmps)=true) (hy:∀ w,S w → (execOp a.eval oi).run P w=.ok (.value v) w) (hS:S w)
 (h:wpAnyH P md ops Q S fuel (listed.setIfInBounds i true) { a with tmps:=a.tmps.setIfInBounds t v } w):wpAnyH P md ops Q S (fuel+1) listed a w :=
 wpAnyH_take hi hs hf hr hQ (.inl ⟨hw,hy⟩) hS (by rw [hd];exact h)
theorem skipTQ {P:Program} {ops:Array Oper} {Q:Exit → Act → World → Prop} {md:Region.Mode} {S:World → Prop} {i t:Nat} {oi:Oper} {fuel:Nat} {listed:Array Bool} {a:Act} {w:World} (hi:ops[i]?=some oi)
 (hs:Region.noSelect ops=true) (hf:Region.free md ops listed i=true) (hr:(Region.ready md ops listed).contains i=true)
 (hQ:∀ c a w,Q (.panic c) (a.put oi.dst undef) w → Q (.panic c) a w) (hd:oi.dst=some t) (hw:Region.wanted oi (yielded ops a.tmps)=false) (hS:S w)
 (h:wpAnyH P md ops Q S fuel (listed.setIfInBounds i true) { a with tmps:=a.tmps.setIfInBounds t undef } w):wpAnyH P md ops Q S (fuel+1) listed a w :=
 wpAnyH_take hi hs hf hr hQ (.inr ⟨hw,rfl⟩) hS (by rw [hd];exact h)
theorem skipCQ {P:Program} {ops:Array Oper} {Q:Exit → Act → World → Prop} {md:Region.Mode} {S:World → Prop} {i t:Nat} {oi:Oper} {fuel:Nat} {listed:Array Bool} {a:Act} {w:World} (hr:Region.ready md ops listed = [i]) (hi:ops[i]?=some oi) (hd:oi.dst=some t) (hw:Region.wanted oi (yielded ops a.tmps)=false) (hS:S w)
 (h:wpAnyH P md ops Q S fuel (listed.setIfInBounds i true) { a with tmps:=a.tmps.setIfInBounds t undef } w):wpAnyH P md ops Q S (fuel+1) listed a w:=by
 refine wpAnyH_ready hr (by simp) (AllReadyH.cons hi (fun K hK=>?_) AllReadyH.nil)
 rw [if_neg (by rw [hw];simp),hd]
 exact hK.out _ _ hS (fun _=>h)
set_option maxRecDepth 100000 in
set_option maxHeartbeats 12800000 in
theorem impl_rangesMeet (w:World) (B:Nat) (hB:B≤w.heap.size) {p0 p1 p2:Value} {pZ:RQ} (hp:QIn w B p0 p1 p2 pZ) {q0 q1 q2:Value} {qZ:RQ} (hq:QIn w B q0 q1 q2 qZ) {m0 m1 m2:Value} {mZ:RQ} (hm:QIn w B m0 m1 m2 mZ) {l0 l1 l2:Value} {lZ:RQ} (hl:QIn w B l0 l1 l2 lZ) (zp:ratQ pZ=true) (zq:ratQ qZ=true) (zm:ratQ mZ=true) (zl:ratQ lZ=true) :
 Calls Tryz.prog 80 #[.agg #[p0,p1,p2],.agg #[q0,q1,q2],.agg #[m0,m1,m2],.agg #[l0,l1,l2]] w fun e w'=>e=.returned (.bool (rangesB pZ qZ mZ lZ))∧Below w.heap.size w w':=by
 have E1:=hide (show rangesB pZ qZ mZ lZ=(decide (cmpQ (lowQ pZ qZ) (highQ mZ lZ)≤0) && decide (cmpQ (lowQ mZ lZ) (highQ pZ qZ)≤0)) from rfl)
 generalize rangesB pZ qZ mZ lZ=RB at E1 ⊢
 have V1:=hide (show ratQ (lowQ pZ qZ)=true from low_ok zp zq)
 have F1:=hide (ratQ_fit V1.out)
 have V2:=hide (show ratQ (highQ mZ lZ)=true from high_ok zm zl)
 have F2:=hide (ratQ_fit V2.out)
 have V3:=hide (show ratQ (lowQ mZ lZ)=true from low_ok zm zl)
 have F3:=hide (ratQ_fit V3.out)
 have V4:=hide (show ratQ (highQ pZ qZ)=true from high_ok zp zq)
 have F4:=hide (ratQ_fit V4.out)
 obtain ⟨W0,hW0⟩:∃ W0,W0=((((w.alloc (.cells #[p0,p1,p2] 27)).alloc (.cells #[q0,q1,q2] 27)).alloc (.cells #[m0,m1,m2] 27)).alloc (.cells #[l0,l1,l2] 27)):=⟨_,rfl⟩
 have hT0:Below w.heap.size w W0:=by rw [hW0];exact below_alloc (below_alloc (below_alloc (below_new _ _) _) _) _
 have kp:Box W0 (w.heap.size) 27 #[p0,p1,p2]:=by rw [hW0];exact (((Box.last _ _ _ rfl).alloc _).alloc _).alloc _
 have kq:Box W0 (w.heap.size+1) 27 #[q0,q1,q2]:=by rw [hW0];exact ((Box.last _ _ _ (alloc_size _ _).symm).alloc _).alloc _
 have km:Box W0 (w.heap.size+2) 27 #[m0,m1,m2]:=by rw [hW0];exact (Box.last _ _ _ (by rw [alloc_size,alloc_size])).alloc _
 have kl:Box W0 (w.heap.size+3) 27 #[l0,l1,l2]:=by rw [hW0];exact Box.last _ _ _ (by rw [alloc_size,alloc_size,alloc_size])
 have hs0:W0.heap.size=w.heap.size+4:=by rw [hW0,alloc_size,alloc_size,alloc_size,alloc_size]
 have hp:=hp.below (hT0.mono hB)
 have hq:=hq.below (hT0.mono hB)
 have hm:=hm.below (hT0.mono hB)
 have hl:=hl.below (hT0.mono hB)
 go_enter Tryz.func80,Tryz.ntmps80
 go_upto_region 1 with fail
 rw [←hW0]
 clear hW0
 obtain ⟨pb,pA,pn,pc,pD,pm,pk,rfl,rfl,rfl⟩:=hp.cut
 obtain ⟨qb,qA,qn,qc,qD,qm,qk,rfl,rfl,rfl⟩:=hq.cut
 obtain ⟨mb,mA,mn,mc,mD,mm,mk,rfl,rfl,rfl⟩:=hm.cut
 obtain ⟨lb,lA,ln,lc,lD,lm,lk,rfl,rfl,rfl⟩:=hl.cut
 have HC1:=hide (fun (W:World) (h:Below W0.heap.size W0 W)=>impl_lowQ W B (by have:=h.size;omega) (hp.below (h.mono (by omega))) zp (hq.below (h.mono (by omega))) zq)
 have HC2:=hide (fun (W:World) (h:Below W0.heap.size W0 W)=>impl_highQ W B (by have:=h.size;omega) (hm.below (h.mono (by omega))) zm (hl.below (h.mono (by omega))) zl)
 have HC3:=hide (fun (W:World) (h:Below W0.heap.size W0 W)=>impl_lowQ W B (by have:=h.size;omega) (hm.below (h.mono (by omega))) zm (hl.below (h.mono (by omega))) zl)
 have HC4:=hide (fun (W:World) (h:Below W0.heap.size W0 W)=>impl_highQ W B (by have:=h.size;omega) (hp.below (h.mono (by omega))) zp (hq.below (h.mono (by omega))) zq)
 clear hp hq hm hl zp zq zm zl
 obtain ⟨c1,hc1⟩:∃ c,c=cmpQ (lowQ pZ qZ) (highQ mZ lZ):=⟨_,rfl⟩
 obtain ⟨c2,hc2⟩:∃ c,c=cmpQ (lowQ mZ lZ) (highQ pZ qZ):=⟨_,rfl⟩
 rw [←hc1,←hc2] at E1
 have HC1e:=hide hc1
 have HC2e:=hide hc2
 clear hc1 hc2
 have HBp:=hide kp
 have HBq:=hide kq
 have HBm:=hide km
 have HBl:=hide kl
 have HS0:Hid (Below W0.heap.size W0 W0.drew):=(Below.refl _ _).drew
 have HKS:=hide (fun (W:World) (hq:Below W0.heap.size W0 W)=>(⟨(HBp.out.below hq HBp.out.lt).cell 0,(HBp.out.below hq HBp.out.lt).cell 1,(HBp.out.below hq HBp.out.lt).cell 2,(HBq.out.below hq HBq.out.lt).cell 0,(HBq.out.below hq HBq.out.lt).cell 1,(HBq.out.below hq HBq.out.lt).cell 2,(HBm.out.below hq HBm.out.lt).cell 0,(HBm.out.below hq HBm.out.lt).cell 1,(HBm.out.below hq HBm.out.lt).cell 2,(HBl.out.below hq HBl.out.lt).cell 0,(HBl.out.below hq HBl.out.lt).cell 1,(HBl.out.below hq HBl.out.lt).cell 2⟩:W.cell? ⟨w.heap.size,0,none⟩=some (.bool pb)∧W.cell? ⟨w.heap.size,1,none⟩=some (.slice pA pn pc)∧W.cell? ⟨w.heap.size,2,none⟩=some (.slice pD pm pk)∧W.cell? ⟨w.heap.size+1,0,none⟩=some (.bool qb)∧W.cell? ⟨w.heap.size+1,1,none⟩=some (.slice qA qn qc)∧W.cell? ⟨w.heap.size+1,2,none⟩=some (.slice qD qm qk)∧W.cell? ⟨w.heap.size+2,0,none⟩=some (.bool mb)∧W.cell? ⟨w.heap.size+2,1,none⟩=some (.slice mA mn mc)∧W.cell? ⟨w.heap.size+2,2,none⟩=some (.slice mD mm mk)∧W.cell? ⟨w.heap.size+3,0,none⟩=some (.bool lb)∧W.cell? ⟨w.heap.size+3,1,none⟩=some (.slice lA ln lc)∧W.cell? ⟨w.heap.size+3,2,none⟩=some (.slice lD lm lk)))
 obtain ⟨yp0,yp1,yp2⟩:=kp.cells3
 obtain ⟨yq0,yq1,yq2⟩:=kq.cells3
 obtain ⟨ym0,ym1,ym2⟩:=km.cells3
 obtain ⟨yl0,yl1,yl2⟩:=kl.cells3
 by_cases h1:c1≤0
 · have hd1:decide (c1≤0)=true:=decide_eq_true h1
   refine wp_region_held_drew (S:=(fun w'=>w'.cell? ⟨w.heap.size,0,none⟩=some (.bool pb)∧w'.cell? ⟨w.heap.size,1,none⟩=some (.slice pA pn pc)∧w'.cell? ⟨w.heap.size,2,none⟩=some (.slice pD pm pk)∧w'.cell? ⟨w.heap.size+1,0,none⟩=some (.bool qb)∧w'.cell? ⟨w.heap.size+1,1,none⟩=some (.slice qA qn qc)∧w'.cell? ⟨w.heap.size+1,2,none⟩=some (.slice qD qm qk)∧w'.cell? ⟨w.heap.size+2,0,none⟩=some (.bool mb)∧w'.cell? ⟨w.heap.size+2,1,none⟩=some (.slice mA mn mc)∧w'.cell? ⟨w.heap.size+2,2,none⟩=some (.slice mD mm mk)∧w'.cell? ⟨w.heap.size+3,0,none⟩=some (.bool lb)∧w'.cell? ⟨w.heap.size+3,1,none⟩=some (.slice lA ln lc)∧w'.cell? ⟨w.heap.size+3,2,none⟩=some (.slice lD lm lk))) (by kernel_rfl) (HKS.out _ HS0.out) (fun hHeld=>?_)
   show wpAnyH _ _ _ _ _ 19 _ _ _
   refine takeTQ (i:=0) (t:=9) (v:=?_) rfl (by kernel_rfl) (by kernel_rfl) (by kernel_rfl) (fun _ _ _ h=>h) rfl (by rfl) ?_ hHeld ?_
   rotate_left 1
   · intro w hSw;(try dsimp only at hSw);go_simp;with_reducible rfl
   refine takeTQ (i:=1) (t:=10) (v:=?_) rfl (by kernel_rfl) (by kernel_rfl) (by kernel_rfl) (fun _ _ _ h=>h) rfl (by rfl) ?_ hHeld ?_
   rotate_left 1
   · intro w hSw;(try dsimp only at hSw);go_simp;with_reducible rfl
   refine takeTQ (i:=3) (t:=12) (v:=?_) rfl (by kernel_rfl) (by kernel_rfl) (by kernel_rfl) (fun _ _ _ h=>h) rfl (by rfl) ?_ hHeld ?_
   rotate_left 1
   · intro w hSw;(try dsimp only at hSw);go_simp;with_reducible rfl
   refine takeTQ (i:=4) (t:=13) (v:=?_) rfl (by kernel_rfl) (by kernel_rfl) (by kernel_rfl) (fun _ _ _ h=>h) rfl (by rfl) ?_ hHeld ?_
   rotate_left 1
   · intro w hSw;(try dsimp only at hSw);go_simp;with_reducible rfl
   refine wpAnyH_ready (rs:=[2]) (by kernel_rfl) (by simp) ?_
   refine AllReadyH.cons rfl (fun K hK=>?_) AllReadyH.nil
   simp only [List.getElem_toArray,List.getElem_cons_succ,List.getElem_cons_zero]
   go_simp
   (have HX:=HS0.out;(with_reducible refine Calls.mono (HC1.out _ HS0.out) ?_);rintro e u1 ⟨d0,d1,d2,rfl,od,hb1⟩;obtain ⟨db,dA,dn,dc,dD,dm,dk,rfl,rfl,rfl⟩:=od.cut;have qd:=od.in_ F1.out (Nat.le_refl _);have HS1:=hide (below_then HX hb1);clear HX od)
   go_wp2_with fail
   refine hK.out _ _ (HKS.out _ HS1.out) (fun hHeld=>?_)
   clear hK K
   refine wpAnyH_ready (rs:=[5]) (by kernel_rfl) (by simp) ?_
   refine AllReadyH.cons rfl (fun K hK=>?_) AllReadyH.nil
   simp only [List.getElem_toArray,List.getElem_cons_succ,List.getElem_cons_zero]
   go_simp
   (have HX:=HS1.out;(with_reducible refine Calls.mono (HC2.out _ HS1.out) ?_);rintro e u2 ⟨g0,g1,g2,rfl,og,hb2⟩;obtain ⟨gb,gA,gn,gc,gD,gm,gk,rfl,rfl,rfl⟩:=og.cut;have qg:=og.in_ F2.out (Nat.le_refl _);have qd:=qd.up hb2;have HS2:=hide (below_then HX hb2);clear HX og)
   go_wp2_with fail
   refine hK.out _ _ (HKS.out _ HS2.out) (fun hHeld=>?_)
   clear hK K
   refine wpAnyH_ready (rs:=[6]) (by kernel_rfl) (by simp) ?_
   refine AllReadyH.cons rfl (fun K hK=>?_) AllReadyH.nil
   simp only [List.getElem_toArray,List.getElem_cons_succ,List.getElem_cons_zero]
   go_simp
   (have HX:=HS2.out;(with_reducible refine Calls.mono (impl_cmpQ u2 u2.heap.size (Nat.le_refl _) qd V1.out qg V2.out) ?_);rw [←HC1e.out];rintro e u3 ⟨rfl,hb3⟩;have HS3:=hide (below_then HX hb3);clear HX)
   go_wp2_with fail
   refine hK.out _ _ (HKS.out _ HS3.out) (fun hHeld=>?_)
   clear hK K
   refine takeTQ (i:=7) (t:=16) (v:=?_) rfl (by kernel_rfl) (by kernel_rfl) (by kernel_rfl) (fun _ _ _ h=>h) rfl (by rfl) ?_ hHeld ?_
   rotate_left 1
   · intro w hSw;(try dsimp only at hSw);go_simp;with_reducible rfl
   refine takeTQ (i:=8) (t:=17) (v:=?_) rfl (by kernel_rfl) (by kernel_rfl) (by kernel_rfl) (fun _ _ _ h=>h) rfl (by rfl) ?_ hHeld ?_
   rotate_left 1
   · intro w hSw;(try dsimp only at hSw);go_simp;with_reducible rfl
   refine takeTQ (i:=9) (t:=18) (v:=?_) rfl (by kernel_rfl) (by kernel_rfl) (by kernel_rfl) (fun _ _ _ h=>h) rfl (by rfl) ?_ hHeld ?_
   rotate_left 1
   · intro w hSw;(try dsimp only at hSw);go_simp;with_reducible rfl
   refine takeTQ (i:=10) (t:=19) (v:=?_) rfl (by kernel_rfl) (by kernel_rfl) (by kernel_rfl) (fun _ _ _ h=>h) rfl (by rfl) ?_ hHeld ?_
   rotate_left 1
   · intro w hSw;(try dsimp only at hSw);go_simp;with_reducible rfl
   refine takeTQ (i:=12) (t:=21) (v:=?_) rfl (by kernel_rfl) (by kernel_rfl) (by kernel_rfl) (fun _ _ _ h=>h) rfl (by rfl) ?_ hHeld ?_
   rotate_left 1
   · intro w hSw;(try dsimp only at hSw);go_simp;with_reducible rfl
   refine takeTQ (i:=13) (t:=22) (v:=?_) rfl (by kernel_rfl) (by kernel_rfl) (by kernel_rfl) (fun _ _ _ h=>h) rfl (by rfl) ?_ hHeld ?_
   rotate_left 1
   · intro w hSw;(try dsimp only at hSw);go_simp;with_reducible rfl
   refine wpAnyH_ready (rs:=[11]) (by kernel_rfl) (by simp) ?_
   refine AllReadyH.cons rfl (fun K hK=>?_) AllReadyH.nil
   simp only [List.getElem_toArray,List.getElem_cons_succ,List.getElem_cons_zero]
   go_simp
   (have HX:=HS3.out;(with_reducible refine Calls.mono (HC3.out _ HS3.out) ?_);rintro e u4 ⟨j0,j1,j2,rfl,oj,hb4⟩;obtain ⟨jb,jA,jn,jc,jD,jm,jk,rfl,rfl,rfl⟩:=oj.cut;have qj:=oj.in_ F3.out (Nat.le_refl _);have HS4:=hide (below_then HX hb4);clear HX oj)
   go_wp2_with fail
   refine hK.out _ _ (HKS.out _ HS4.out) (fun hHeld=>?_)
   clear hK K
   refine wpAnyH_ready (rs:=[14]) (by kernel_rfl) (by simp) ?_
   refine AllReadyH.cons rfl (fun K hK=>?_) AllReadyH.nil
   simp only [List.getElem_toArray,List.getElem_cons_succ,List.getElem_cons_zero]
   go_simp
   (have HX:=HS4.out;(with_reducible refine Calls.mono (HC4.out _ HS4.out) ?_);rintro e u5 ⟨x0,x1,x2,rfl,ox,hb5⟩;obtain ⟨xb,xA,xn,xc,xD,xm,xk,rfl,rfl,rfl⟩:=ox.cut;have qx:=ox.in_ F4.out (Nat.le_refl _);have qj:=qj.up hb5;have HS5:=hide (below_then HX hb5);clear HX ox)
   go_wp2_with fail
   refine hK.out _ _ (HKS.out _ HS5.out) (fun hHeld=>?_)
   clear hK K
   refine wpAnyH_ready (rs:=[15]) (by kernel_rfl) (by simp) ?_
   refine AllReadyH.cons rfl (fun K hK=>?_) AllReadyH.nil
   simp only [List.getElem_toArray,List.getElem_cons_succ,List.getElem_cons_zero]
   go_simp
   (have HX:=HS5.out;(with_reducible refine Calls.mono (impl_cmpQ u5 u5.heap.size (Nat.le_refl _) qj V3.out qx V4.out) ?_);rw [←HC2e.out];rintro e u6 ⟨rfl,hb6⟩;have HS6:=hide (below_then HX hb6);clear HX)
   go_wp2_with fail
   refine hK.out _ _ (HKS.out _ HS6.out) (fun hHeld=>?_)
   clear hK K
   refine takeTQ (i:=16) (t:=25) (v:=?_) rfl (by kernel_rfl) (by kernel_rfl) (by kernel_rfl) (fun _ _ _ h=>h) rfl (by rfl) ?_ hHeld ?_
   rotate_left 1
   · intro w hSw;(try dsimp only at hSw);go_simp;with_reducible rfl
   refine takeTQ (i:=17) (t:=26) (v:=?_) rfl (by kernel_rfl) (by kernel_rfl) (by kernel_rfl) (fun _ _ _ h=>h) rfl (by rfl) ?_ hHeld ?_
   rotate_left 1
   · intro w hSw;(try dsimp only at hSw);go_simp;with_reducible rfl
   refine takeTQ (i:=18) (t:=8) (v:=?_) rfl (by kernel_rfl) (by kernel_rfl) (by kernel_rfl) (fun _ _ _ h=>h) rfl (by rfl) ?_ hHeld ?_
   rotate_left 1
   · intro w hSw;(try dsimp only at hSw);go_simp;with_reducible rfl
   refine wpAnyH_done (by kernel_rfl) ?_ _
   have hTT:=below_then hT0 HS6.out
   go_wp2_with fail
   go_ret
   exact ⟨by rw [E1.out,hd1];rfl,hTT⟩
 · have hd1:decide (c1≤0)=false:=decide_eq_false h1
   have h1':(c1≤0)=False:=eq_false h1
   refine wp_region_held_drew (S:=(fun w'=>w'.cell? ⟨w.heap.size,0,none⟩=some (.bool pb)∧w'.cell? ⟨w.heap.size,1,none⟩=some (.slice pA pn pc)∧w'.cell? ⟨w.heap.size,2,none⟩=some (.slice pD pm pk)∧w'.cell? ⟨w.heap.size+1,0,none⟩=some (.bool qb)∧w'.cell? ⟨w.heap.size+1,1,none⟩=some (.slice qA qn qc)∧w'.cell? ⟨w.heap.size+1,2,none⟩=some (.slice qD qm qk)∧w'.cell? ⟨w.heap.size+2,0,none⟩=some (.bool mb)∧w'.cell? ⟨w.heap.size+2,1,none⟩=some (.slice mA mn mc)∧w'.cell? ⟨w.heap.size+2,2,none⟩=some (.slice mD mm mk)∧w'.cell? ⟨w.heap.size+3,0,none⟩=some (.bool lb)∧w'.cell? ⟨w.heap.size+3,1,none⟩=some (.slice lA ln lc)∧w'.cell? ⟨w.heap.size+3,2,none⟩=some (.slice lD lm lk))) (by kernel_rfl) (HKS.out _ HS0.out) (fun hHeld=>?_)
   show wpAnyH _ _ _ _ _ 19 _ _ _
   refine takeTQ (i:=0) (t:=9) (v:=?_) rfl (by kernel_rfl) (by kernel_rfl) (by kernel_rfl) (fun _ _ _ h=>h) rfl (by rfl) ?_ hHeld ?_
   rotate_left 1
   · intro w hSw;(try dsimp only at hSw);go_simp;with_reducible rfl
   refine takeTQ (i:=1) (t:=10) (v:=?_) rfl (by kernel_rfl) (by kernel_rfl) (by kernel_rfl) (fun _ _ _ h=>h) rfl (by rfl) ?_ hHeld ?_
   rotate_left 1
   · intro w hSw;(try dsimp only at hSw);go_simp;with_reducible rfl
   refine takeTQ (i:=3) (t:=12) (v:=?_) rfl (by kernel_rfl) (by kernel_rfl) (by kernel_rfl) (fun _ _ _ h=>h) rfl (by rfl) ?_ hHeld ?_
   rotate_left 1
   · intro w hSw;(try dsimp only at hSw);go_simp;with_reducible rfl
   refine takeTQ (i:=4) (t:=13) (v:=?_) rfl (by kernel_rfl) (by kernel_rfl) (by kernel_rfl) (fun _ _ _ h=>h) rfl (by rfl) ?_ hHeld ?_
   rotate_left 1
   · intro w hSw;(try dsimp only at hSw);go_simp;with_reducible rfl
   refine wpAnyH_ready (rs:=[2]) (by kernel_rfl) (by simp) ?_
   refine AllReadyH.cons rfl (fun K hK=>?_) AllReadyH.nil
   simp only [List.getElem_toArray,List.getElem_cons_succ,List.getElem_cons_zero]
   go_simp
   (have HX:=HS0.out;(with_reducible refine Calls.mono (HC1.out _ HS0.out) ?_);rintro e u1 ⟨d0,d1,d2,rfl,od,hb1⟩;obtain ⟨db,dA,dn,dc,dD,dm,dk,rfl,rfl,rfl⟩:=od.cut;have qd:=od.in_ F1.out (Nat.le_refl _);have HS1:=hide (below_then HX hb1);clear HX od)
   go_wp2_with fail
   refine hK.out _ _ (HKS.out _ HS1.out) (fun hHeld=>?_)
   clear hK K
   refine wpAnyH_ready (rs:=[5]) (by kernel_rfl) (by simp) ?_
   refine AllReadyH.cons rfl (fun K hK=>?_) AllReadyH.nil
   simp only [List.getElem_toArray,List.getElem_cons_succ,List.getElem_cons_zero]
   go_simp
   (have HX:=HS1.out;(with_reducible refine Calls.mono (HC2.out _ HS1.out) ?_);rintro e u2 ⟨g0,g1,g2,rfl,og,hb2⟩;obtain ⟨gb,gA,gn,gc,gD,gm,gk,rfl,rfl,rfl⟩:=og.cut;have qg:=og.in_ F2.out (Nat.le_refl _);have qd:=qd.up hb2;have HS2:=hide (below_then HX hb2);clear HX og)
   go_wp2_with fail
   refine hK.out _ _ (HKS.out _ HS2.out) (fun hHeld=>?_)
   clear hK K
   refine wpAnyH_ready (rs:=[6]) (by kernel_rfl) (by simp) ?_
   refine AllReadyH.cons rfl (fun K hK=>?_) AllReadyH.nil
   simp only [List.getElem_toArray,List.getElem_cons_succ,List.getElem_cons_zero]
   go_simp
   (have HX:=HS2.out;(with_reducible refine Calls.mono (impl_cmpQ u2 u2.heap.size (Nat.le_refl _) qd V1.out qg V2.out) ?_);rw [←HC1e.out];rintro e u3 ⟨rfl,hb3⟩;have HS3:=hide (below_then HX hb3);clear HX)
   go_wp2_with fail
   refine hK.out _ _ (HKS.out _ HS3.out) (fun hHeld=>?_)
   clear hK K
   refine takeTQ (i:=7) (t:=16) (v:=?_) rfl (by kernel_rfl) (by kernel_rfl) (by kernel_rfl) (fun _ _ _ h=>h) rfl (by rfl) ?_ hHeld ?_
   rotate_left 1
   · intro w hSw;(try dsimp only at hSw);go_simp;with_reducible rfl
   refine takeTQ (i:=8) (t:=17) (v:=?_) rfl (by kernel_rfl) (by kernel_rfl) (by kernel_rfl) (fun _ _ _ h=>h) rfl (by rfl) ?_ hHeld ?_
   rotate_left 1
   · intro w hSw;(try dsimp only at hSw);go_simp;with_reducible rfl
   refine skipTQ (i:=9) (t:=18) rfl (by kernel_rfl) (by kernel_rfl) (by kernel_rfl) (fun _ _ _ h=>h) rfl (by rfl) hHeld ?_
   simp only [List.setIfInBounds_toArray,List.set_cons_zero,List.set_cons_succ]
   refine skipTQ (i:=10) (t:=19) rfl (by kernel_rfl) (by kernel_rfl) (by kernel_rfl) (fun _ _ _ h=>h) rfl (by rfl) hHeld ?_
   simp only [List.setIfInBounds_toArray,List.set_cons_zero,List.set_cons_succ]
   refine skipTQ (i:=12) (t:=21) rfl (by kernel_rfl) (by kernel_rfl) (by kernel_rfl) (fun _ _ _ h=>h) rfl (by rfl) hHeld ?_
   simp only [List.setIfInBounds_toArray,List.set_cons_zero,List.set_cons_succ]
   refine skipTQ (i:=13) (t:=22) rfl (by kernel_rfl) (by kernel_rfl) (by kernel_rfl) (fun _ _ _ h=>h) rfl (by rfl) hHeld ?_
   simp only [List.setIfInBounds_toArray,List.set_cons_zero,List.set_cons_succ]
   refine skipCQ (i:=11) (t:=20) (by kernel_rfl) rfl rfl (by rfl) hHeld ?_
   simp only [List.setIfInBounds_toArray,List.set_cons_zero,List.set_cons_succ]
   refine skipCQ (i:=14) (t:=23) (by kernel_rfl) rfl rfl (by rfl) hHeld ?_
   simp only [List.setIfInBounds_toArray,List.set_cons_zero,List.set_cons_succ]
   refine skipCQ (i:=15) (t:=24) (by kernel_rfl) rfl rfl (by rfl) hHeld ?_
   simp only [List.setIfInBounds_toArray,List.set_cons_zero,List.set_cons_succ]
   refine skipTQ (i:=16) (t:=25) rfl (by kernel_rfl) (by kernel_rfl) (by kernel_rfl) (fun _ _ _ h=>h) rfl (by rfl) hHeld ?_
   simp only [List.setIfInBounds_toArray,List.set_cons_zero,List.set_cons_succ]
   refine takeTQ (i:=17) (t:=26) (v:=?_) rfl (by kernel_rfl) (by kernel_rfl) (by kernel_rfl) (fun _ _ _ h=>h) rfl (by rfl) ?_ hHeld ?_
   rotate_left 1
   · intro w hSw;(try dsimp only at hSw);go_simp;with_reducible rfl
   refine takeTQ (i:=18) (t:=8) (v:=?_) rfl (by kernel_rfl) (by kernel_rfl) (by kernel_rfl) (fun _ _ _ h=>h) rfl (by rfl) ?_ hHeld ?_
   rotate_left 1
   · intro w hSw;(try dsimp only at hSw);go_simp;with_reducible rfl
   refine wpAnyH_done (by kernel_rfl) ?_ _
   have hTT:=below_then hT0 HS3.out
   go_wp2_with fail
   go_ret
   exact ⟨by rw [E1.out,hd1];rfl,hTT⟩
/-- the points of a segment in twelve cells -/
def GIn (w:World) (B:Nat) (v0 v1 v2 v3 v4 v5 v6 v7 v8 v9 v10 v11:Value) (S:PQ × PQ):Prop:=PIn w B v0 v1 v2 v3 v4 v5 S.1∧PIn w B v6 v7 v8 v9 v10 v11 S.2
def validG (S:PQ × PQ):Prop:=(ratQ S.1.1=true∧ratQ S.1.2=true)∧ratQ S.2.1=true∧ratQ S.2.2=true
section
variable {w w':World} {B B':Nat} {v0 v1 v2 v3 v4 v5 v6 v7 v8 v9 v10 v11:Value} {S:PQ × PQ}
theorem GIn.below (h:GIn w B v0 v1 v2 v3 v4 v5 v6 v7 v8 v9 v10 v11 S) (hb:Below B w w'):GIn w' B v0 v1 v2 v3 v4 v5 v6 v7 v8 v9 v10 v11 S:=⟨h.1.below hb,h.2.below hb⟩
theorem GIn.wider (h:GIn w B v0 v1 v2 v3 v4 v5 v6 v7 v8 v9 v10 v11 S) (hB:B≤B'):GIn w B' v0 v1 v2 v3 v4 v5 v6 v7 v8 v9 v10 v11 S:=⟨h.1.wider hB,h.2.wider hB⟩
theorem GIn.fst (h:GIn w B v0 v1 v2 v3 v4 v5 v6 v7 v8 v9 v10 v11 S):PIn w B v0 v1 v2 v3 v4 v5 S.1:=h.1
theorem GIn.snd (h:GIn w B v0 v1 v2 v3 v4 v5 v6 v7 v8 v9 v10 v11 S):PIn w B v6 v7 v8 v9 v10 v11 S.2:=h.2
end
theorem Box.cells12 {w:World} {g:Nat} {E:TypeId} {a b c d e f a' b' c' d' e' f':Value} (h:Box w g E #[a,b,c,d,e,f,a',b',c',d',e',f']):w.cell? ⟨g,0,none⟩=some a∧w.cell? ⟨g,1,none⟩=some b∧w.cell? ⟨g,2,none⟩=some c∧w.cell? ⟨g,3,none⟩=some d∧w.cell? ⟨g,4,none⟩=some e∧w.cell? ⟨g,5,none⟩=some f∧w.cell? ⟨g,6,none⟩=some a'∧w.cell? ⟨g,7,none⟩=some b'∧w.cell? ⟨g,8,none⟩=some c'∧w.cell? ⟨g,9,none⟩=some d'∧w.cell? ⟨g,10,none⟩=some e'∧w.cell? ⟨g,11,none⟩=some f' :=
 ⟨h.cell 0,h.cell 1,h.cell 2,h.cell 3,h.cell 4,h.cell 5,h.cell 6,h.cell 7,h.cell 8,h.cell 9,h.cell 10,h.cell 11⟩
set_option maxRecDepth 100000 in
set_option maxHeartbeats 3200000 in
theorem impl_segValid (w:World) (B:Nat) (hB:B≤w.heap.size) {p0 p1 p2 p3 p4 p5 p6 p7 p8 p9 p10 p11:Value} {pZ:PQ × PQ} (hp:GIn w B p0 p1 p2 p3 p4 p5 p6 p7 p8 p9 p10 p11 pZ) :
 Calls Tryz.prog 42 #[.agg #[p0,p1,p2,p3,p4,p5,p6,p7,p8,p9,p10,p11]] w fun e w'=>e=.returned (.bool (validP pZ.1 && validP pZ.2))∧Below w.heap.size w w':=by
 obtain ⟨b1,e1⟩:∃ b,b=validP pZ.1:=⟨_,rfl⟩
 obtain ⟨b2,e2⟩:∃ b,b=validP pZ.2:=⟨_,rfl⟩
 rw [←e1,←e2]
 have E1:=hide e1
 have E2:=hide e2
 clear e1 e2
 obtain ⟨W0,hW0⟩:∃ W0,W0=(w.alloc (.cells #[p0,p1,p2,p3,p4,p5,p6,p7,p8,p9,p10,p11] 64)):=⟨_,rfl⟩
 have hT0:Below w.heap.size w W0:=by rw [hW0];exact below_new _ _
 have kp:Box W0 (w.heap.size) 64 #[p0,p1,p2,p3,p4,p5,p6,p7,p8,p9,p10,p11]:=by rw [hW0];exact Box.last _ _ _ rfl
 have hs0:W0.heap.size=w.heap.size+1:=by rw [hW0,alloc_size]
 have hp:=hp.below (hT0.mono hB)
 go_enter Tryz.func42,Tryz.ntmps42
 go_upto_region 1 with fail
 rw [←hW0]
 clear hW0
 obtain ⟨pb,pA,pn,pc,pD,pm,pk,pyb,pyA,pyn,pyc,pyD,pym,pyk,rfl,rfl,rfl,rfl,rfl,rfl⟩:=hp.fst.cut
 obtain ⟨pzb,pzA,pzn,pzc,pzD,pzm,pzk,pzyb,pzyA,pzyn,pzyc,pzyD,pzym,pzyk,rfl,rfl,rfl,rfl,rfl,rfl⟩:=hp.snd.cut
 obtain ⟨yp0,yp1,yp2,yp3,yp4,yp5,yp6,yp7,yp8,yp9,yp10,yp11⟩:=kp.cells12
 go_wp2_with fail
 refine (impl_IsValidPoint W0 B (by omega) hp.fst).mono ?_
 rintro e w1 ⟨rfl,hb1⟩
 clear yp0 yp1 yp2 yp3 yp4 yp5 yp6 yp7 yp8 yp9 yp10 yp11
 have hs1:=hb1.size
 have hT1:=below_then hT0 hb1
 have kp:=kp.below hb1 kp.lt
 have hp:=hp.below (hb1.mono (by omega))
 clear hT0
 clear hb1
 rw [show (ratQ pZ.1.1 && ratQ pZ.1.2)=validP pZ.1 from rfl,←E1.out]
 have HV:=hide (impl_IsValidPoint w1 B (by omega) hp.snd)
 rw [show (ratQ pZ.2.1 && ratQ pZ.2.2)=validP pZ.2 from rfl,←E2.out] at HV
 obtain ⟨yp0,yp1,yp2,yp3,yp4,yp5,yp6,yp7,yp8,yp9,yp10,yp11⟩:=kp.cells12
 cases b1
 · go_wp2_with fail
   go_ret
   exact ⟨rfl,hT1⟩
 · go_wp2_with fail
   refine HV.out.mono ?_
   rintro e w2 ⟨rfl,hb2⟩
   have hT2:=below_then hT1 hb2
   go_wp2_with fail
   go_ret
   exact ⟨by cases b2 <;> rfl,hT2⟩
end Go.Proofs.YtafhhemojdblpaaGreat
