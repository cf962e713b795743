/-
  The texts SegC, SegD, put together; each has its own heading below. No condition of ours.
-/
import Derived.Test.YtafhhemojdblpaaGreatSegB2
import Derived.Deep.RegionHeld3
import Derived.Deep.CutRange
import Derived.Sort.AtCall
import Derived.Test.YtafhhemojdblpaaGreatPolI
import Derived.Test.YtafhhemojdblpaaGreatPI
import Derived.Deep.RegionLaw
/-
  The program's segments: meets, SegmentsMeet.
-/
namespace Go.Proofs.YtafhhemojdblpaaGreat
open Go.RowKit
set_option linter.unusedVariables false
def meetsB (S T:PQ × PQ):Bool:=((rangesB S.1.1 S.2.1 T.1.1 T.2.1 && rangesB S.1.2 S.2.2 T.1.2 T.2.2) && lineB S T) && lineB T S
set_option maxRecDepth 100000 in
set_option maxHeartbeats 6400000 in
theorem impl_meets (w:World) (B:Nat) (hB:B≤w.heap.size) {p0 p1 p2 p3 p4 p5 p6 p7 p8 p9 p10 p11:Value} {pZ:PQ × PQ} (hp:GIn w B p0 p1 p2 p3 p4 p5 p6 p7 p8 p9 p10 p11 pZ) {q0 q1 q2 q3 q4 q5 q6 q7 q8 q9 q10 q11:Value} {qZ:PQ × PQ} (hq:GIn w B q0 q1 q2 q3 q4 q5 q6 q7 q8 q9 q10 q11 qZ) (zp:validG pZ) (zq:validG qZ) :
 Calls Tryz.prog 44 #[.agg #[p0,p1,p2,p3,p4,p5,p6,p7,p8,p9,p10,p11],.agg #[q0,q1,q2,q3,q4,q5,q6,q7,q8,q9,q10,q11]] w fun e w'=>e=.returned (.bool (meetsB pZ qZ))∧Below w.heap.size w w':=by
 obtain ⟨b1,e1⟩:∃ b,b=rangesB pZ.1.1 pZ.2.1 qZ.1.1 qZ.2.1:=⟨_,rfl⟩
 obtain ⟨b2,e2⟩:∃ b,b=rangesB pZ.1.2 pZ.2.2 qZ.1.2 qZ.2.2:=⟨_,rfl⟩
 obtain ⟨b3,e3⟩:∃ b,b=lineB pZ qZ:=⟨_,rfl⟩
 obtain ⟨b4,e4⟩:∃ b,b=lineB qZ pZ:=⟨_,rfl⟩
 have ER:Hid (meetsB pZ qZ=(((b1 && b2) && b3) && b4)):=by show _=_;rw [e1,e2,e3,e4];rfl
 generalize meetsB pZ qZ=RB at ER ⊢
 obtain ⟨W0,hW0⟩:∃ W0,W0=((w.alloc (.cells #[p0,p1,p2,p3,p4,p5,p6,p7,p8,p9,p10,p11] 64)).alloc (.cells #[q0,q1,q2,q3,q4,q5,q6,q7,q8,q9,q10,q11] 64)):=⟨_,rfl⟩
 have hT0:Below w.heap.size w W0:=by rw [hW0];exact below_alloc (below_new _ _) _
 have kp:Box W0 (w.heap.size) 64 #[p0,p1,p2,p3,p4,p5,p6,p7,p8,p9,p10,p11]:=by rw [hW0];exact (Box.last _ _ _ rfl).alloc _
 have kq:Box W0 (w.heap.size+1) 64 #[q0,q1,q2,q3,q4,q5,q6,q7,q8,q9,q10,q11]:=by rw [hW0];exact Box.last _ _ _ (alloc_size _ _).symm
 have hs0:W0.heap.size=w.heap.size+2:=by rw [hW0,alloc_size,alloc_size]
 have hp:=hp.below (hT0.mono hB)
 have hq:=hq.below (hT0.mono hB)
 go_enter Tryz.func44,Tryz.ntmps44
 go_upto_region 1 with fail
 rw [←hW0]
 clear hW0
 obtain ⟨pb,pA,pn,pc,pD,pm,pk,pyb,pyA,pyn,pyc,pyD,pym,pyk,rfl,rfl,rfl,rfl,rfl,rfl⟩:=hp.fst.cut
 obtain ⟨pzb,pzA,pzn,pzc,pzD,pzm,pzk,pzyb,pzyA,pzyn,pzyc,pzyD,pzym,pzyk,rfl,rfl,rfl,rfl,rfl,rfl⟩:=hp.snd.cut
 obtain ⟨qb,qA,qn,qc,qD,qm,qk,qyb,qyA,qyn,qyc,qyD,qym,qyk,rfl,rfl,rfl,rfl,rfl,rfl⟩:=hq.fst.cut
 obtain ⟨qzb,qzA,qzn,qzc,qzD,qzm,qzk,qzyb,qzyA,qzyn,qzyc,qzyD,qzym,qzyk,rfl,rfl,rfl,rfl,rfl,rfl⟩:=hq.snd.cut
 have HC1:=hide (fun (W:World) (h:Below W0.heap.size W0 W)=>impl_rangesMeet W B (by have:=h.size;omega) (hp.fst.1.below (h.mono (by omega))) (hp.snd.1.below (h.mono (by omega))) (hq.fst.1.below (h.mono (by omega))) (hq.snd.1.below (h.mono (by omega))) zp.1.1 zp.2.1 zq.1.1 zq.2.1)
 rw [←e1] at HC1
 have HC2:=hide (fun (W:World) (h:Below W0.heap.size W0 W)=>impl_rangesMeet W B (by have:=h.size;omega) (hp.fst.2.below (h.mono (by omega))) (hp.snd.2.below (h.mono (by omega))) (hq.fst.2.below (h.mono (by omega))) (hq.snd.2.below (h.mono (by omega))) zp.1.2 zp.2.2 zq.1.2 zq.2.2)
 rw [←e2] at HC2
 have HC3:=hide (fun (W:World) (h:Below W0.heap.size W0 W)=>impl_lineMeets W B (by have:=h.size;omega) (hp.below (h.mono (by omega))) (hq.below (h.mono (by omega))) zp zq)
 rw [←e3] at HC3
 have HC4:=hide (fun (W:World) (h:Below W0.heap.size W0 W)=>impl_lineMeets W B (by have:=h.size;omega) (hq.below (h.mono (by omega))) (hp.below (h.mono (by omega))) zq zp)
 rw [←e4] at HC4
 have HBp:=hide kp
 have HBq:=hide kq
 clear hp hq kp kq e1 e2 e3 e4
 obtain ⟨yp0,yp1,yp2,yp3,yp4,yp5,yp6,yp7,yp8,yp9,yp10,yp11⟩:=HBp.out.cells12
 obtain ⟨yq0,yq1,yq2,yq3,yq4,yq5,yq6,yq7,yq8,yq9,yq10,yq11⟩:=HBq.out.cells12
 have hb0:Below W0.heap.size W0 W0:=Below.refl _ _
 go_wp2_with fail
 refine (HC1.out _ hb0).mono ?_
 rintro e w1 ⟨rfl,hb1'⟩
 have hb1:=below_then hb0 hb1'
 clear yp0 yp1 yp2 yp3 yp4 yp5 yp6 yp7 yp8 yp9 yp10 yp11 yq0 yq1 yq2 yq3 yq4 yq5 yq6 yq7 yq8 yq9 yq10 yq11
 obtain ⟨yp0,yp1,yp2,yp3,yp4,yp5,yp6,yp7,yp8,yp9,yp10,yp11⟩:=(HBp.out.below hb1 HBp.out.lt).cells12
 obtain ⟨yq0,yq1,yq2,yq3,yq4,yq5,yq6,yq7,yq8,yq9,yq10,yq11⟩:=(HBq.out.below hb1 HBq.out.lt).cells12
 cases b1
 · go_wp2_with fail
   go_ret
   exact ⟨by rw [ER.out];rfl,below_then hT0 hb1⟩
 go_wp2_with fail
 refine (HC2.out _ hb1).mono ?_
 rintro e w2 ⟨rfl,hb2'⟩
 have hb2:=below_then hb1 hb2'
 clear yp0 yp1 yp2 yp3 yp4 yp5 yp6 yp7 yp8 yp9 yp10 yp11 yq0 yq1 yq2 yq3 yq4 yq5 yq6 yq7 yq8 yq9 yq10 yq11
 obtain ⟨yp0,yp1,yp2,yp3,yp4,yp5,yp6,yp7,yp8,yp9,yp10,yp11⟩:=(HBp.out.below hb2 HBp.out.lt).cells12
 obtain ⟨yq0,yq1,yq2,yq3,yq4,yq5,yq6,yq7,yq8,yq9,yq10,yq11⟩:=(HBq.out.below hb2 HBq.out.lt).cells12
 cases b2
 · go_wp2_with fail
   go_ret
   exact ⟨by rw [ER.out];rfl,below_then hT0 hb2⟩
 go_wp2_with fail
 refine (HC3.out _ hb2).mono ?_
 rintro e w3 ⟨rfl,hb3'⟩
 have hb3:=below_then hb2 hb3'
 clear yp0 yp1 yp2 yp3 yp4 yp5 yp6 yp7 yp8 yp9 yp10 yp11 yq0 yq1 yq2 yq3 yq4 yq5 yq6 yq7 yq8 yq9 yq10 yq11
 obtain ⟨yp0,yp1,yp2,yp3,yp4,yp5,yp6,yp7,yp8,yp9,yp10,yp11⟩:=(HBp.out.below hb3 HBp.out.lt).cells12
 obtain ⟨yq0,yq1,yq2,yq3,yq4,yq5,yq6,yq7,yq8,yq9,yq10,yq11⟩:=(HBq.out.below hb3 HBq.out.lt).cells12
 cases b3
 · go_wp2_with fail
   go_ret
   exact ⟨by rw [ER.out];rfl,below_then hT0 hb3⟩
 go_wp2_with fail
 refine (HC4.out _ hb3).mono ?_
 rintro e w4 ⟨rfl,hb4'⟩
 have hb4:=below_then hb3 hb4'
 clear yp0 yp1 yp2 yp3 yp4 yp5 yp6 yp7 yp8 yp9 yp10 yp11 yq0 yq1 yq2 yq3 yq4 yq5 yq6 yq7 yq8 yq9 yq10 yq11
 go_wp2_with fail
 go_ret
 exact ⟨by rw [ER.out];rfl,below_then hT0 hb4⟩
end Go.Proofs.YtafhhemojdblpaaGreat
/-
  The program's segments: the edges of a polygon, as a row: boundaryOf.
-/
namespace Go.Proofs.YtafhhemojdblpaaGreat
open Go.RowKit
set_option linter.unusedVariables false
/-- edge i of the row at block g: its twelve cells, its lists behind block g -/
def EdgeAt (w:World) (g i:Nat) (E:TypeId) (S:PQ × PQ):Prop :=
 ∃ v0 v1 v2 v3 v4 v5 v6 v7 v8 v9 v10 v11 l1 h1 l2 h2,(∀ j u,[v0,v1,v2,v3,v4,v5,v6,v7,v8,v9,v10,v11][j]?=some u → w.cell? ⟨g,i * 12+j,none⟩=some u)∧POwn w l1 h1 E v0 v1 v2 v3 v4 v5 S.1∧POwn w l2 h2 E v6 v7 v8 v9 v10 v11 S.2∧g+1≤l1∧g+1≤l2∧h1≤w.heap.size∧h2≤w.heap.size
def RoomAt (w:World) (g m:Nat):Prop:=∀ j,j < m → (w.cell? ⟨g,j,none⟩).isSome=true∧w.frozen? ⟨g,j,none⟩=false
theorem EdgeAt.below {w w':World} {g i:Nat} {E:TypeId} {S:PQ × PQ} (h:EdgeAt w g i E S) (hg:g < w.heap.size) (hb:Below w.heap.size w w'):EdgeAt w' g i E S:=by
 obtain ⟨v0,v1,v2,v3,v4,v5,v6,v7,v8,v9,v10,v11,l1,h1,l2,h2,hc,o1,o2,a,b,c,d⟩:=h
 have:=hb.size
 exact ⟨v0,v1,v2,v3,v4,v5,v6,v7,v8,v9,v10,v11,l1,h1,l2,h2,fun j u hu=>(hb.cell hg).trans (hc j u hu),o1.below hb c,o2.below hb d,a,b,by omega,by omega⟩
theorem RoomAt.below {w w':World} {g m:Nat} (h:RoomAt w g m) (hg:g < w.heap.size) (hb:Below w.heap.size w w'):RoomAt w' g m:=fun j hj=>by
 rw [hb.cell hg,hb.frozen (p:=⟨g,j,none⟩) hg];exact h j hj
theorem setCells_aside (g:Nat):∀ (vs:List Value) (o:Nat) (w:World),Aside g (g+1) w (w.setCells g o vs)
 | [],_,w=>Aside.refl w
 | v :: r,o,w=>((Aside.refl w).setCell (a:=⟨g,o,none⟩) (Nat.le_refl _) (Nat.lt_succ_self _) v).trans (setCells_aside g r (o+1) _)
theorem setCells_size' (g:Nat) (vs:List Value) (o:Nat) (w:World):(w.setCells g o vs).heap.size=w.heap.size:=by
 induction vs generalizing o w with
 | nil=>rfl
 | cons v r ih=>show ((w.setCell ⟨g,o,none⟩ v).setCells g (o+1) r).heap.size=_;rw [ih,setCell_size]
theorem EdgeAt.put {w:World} {g i k:Nat} {E:TypeId} {S:PQ × PQ} (h:EdgeAt w g i E S) (hk:i < k) (vs:List Value):EdgeAt (w.setCells g (k * 12) vs) g i E S:=by
 obtain ⟨v0,v1,v2,v3,v4,v5,v6,v7,v8,v9,v10,v11,l1,h1,l2,h2,hc,o1,o2,a,b,c,d⟩:=h
 have ha:=setCells_aside g vs (k * 12) w
 have hs:=setCells_size' g vs (k * 12) w
 refine ⟨v0,v1,v2,v3,v4,v5,v6,v7,v8,v9,v10,v11,l1,h1,l2,h2,fun j u hu=>?_,o1.aside ha (.inr a),o2.aside ha (.inr b),a,b,by omega,by omega⟩
 have hj:j < 12:=by have:=(List.getElem?_eq_some_iff.1 hu).1;simpa using this
 rw [World.cell?_setCells_out _ _ _ _ _ (fun _ _=>.inl (by show i * 12+j < k * 12;omega))]
 exact hc j u hu
theorem RoomAt.put {w:World} {g m k:Nat} (h:RoomAt w g m) (vs:List Value):RoomAt (w.setCells g k vs) g m:=fun j hj=>⟨World.isSome_setCells _ _ _ _ _ (h j hj).1,by rw [World.frozen?_setCells];exact (h j hj).2⟩
theorem EdgeAt.new {w:World} {g k m:Nat} {E:TypeId} {P Q:PQ} {v0 v1 v2 v3 v4 v5 v6 v7 v8 v9 v10 v11:Value} {l1 h1 l2 h2:Nat} (hr:RoomAt w g m) (hk:k * 12+12≤m) (o1:POwn w l1 h1 E v0 v1 v2 v3 v4 v5 P) (o2:POwn w l2 h2 E v6 v7 v8 v9 v10 v11 Q) (a:g+1≤l1) (b:g+1≤l2) (c:h1≤w.heap.size) (d:h2≤w.heap.size) :
 EdgeAt (w.setCells g (k * 12) [v0,v1,v2,v3,v4,v5,v6,v7,v8,v9,v10,v11]) g k E (P,Q):=by
 have ha:=setCells_aside g [v0,v1,v2,v3,v4,v5,v6,v7,v8,v9,v10,v11] (k * 12) w
 have hs:=setCells_size' g [v0,v1,v2,v3,v4,v5,v6,v7,v8,v9,v10,v11] (k * 12) w
 refine ⟨v0,v1,v2,v3,v4,v5,v6,v7,v8,v9,v10,v11,l1,h1,l2,h2,fun j u hu=>?_,o1.aside ha (.inr a),o2.aside ha (.inr b),a,b,by omega,by omega⟩
 obtain ⟨hj,he⟩:=List.getElem?_eq_some_iff.1 hu
 have h12:j < 12:=by simpa using hj
 rw [World.cell?_setCells_in g [v0,v1,v2,v3,v4,v5,v6,v7,v8,v9,v10,v11] (k * 12) w (fun i hi=>(hr _ (by have:i < 12:=(by simpa using hi);omega)).1) j hj,he]
theorem Tryz.infoSeg:(Tryz.prog.info? 64).map (fun i=>(i.zero.map (fun z=>z.cells.size),i.size,i.bytes))=some (some 12,12,224):=by kernel_rfl
theorem seg_info:∃ i z,Tryz.prog.info? 64=some i∧i.zero=some z∧z.cells.size=12∧i.size=12∧i.bytes=224:=by
 have h:=Tryz.infoSeg
 cases hi:Tryz.prog.info? 64 with
 | none=>rw [hi] at h;cases h
 | some i =>
   rw [hi] at h
   simp only [Option.map_some,Option.some.injEq,Prod.mk.injEq] at h
   cases hz:i.zero with
   | none=>rw [hz] at h;cases h.1
   | some z=>rw [hz] at h;exact ⟨i,z,rfl,hz,by simpa using h.1,h.2.1,h.2.2⟩
theorem make_seg (w:World) (n:Nat) (hn:n≤1048576):∃ w1,(Instr.makeSlice 65 (.int .i64 0) (.int .i64 (n:Int))).run Tryz.prog w=.ok (.slice (some ⟨w.heap.size,0,none⟩) 0 n) w1∧RoomAt w1 w.heap.size (n * 12)∧Below w.heap.size w w1∧w.heap.size < w1.heap.size:=by
 obtain ⟨i0,z,hi0,hz0,hz1,hz2,hz3⟩:=seg_info
 have h:=run_make (P:=Tryz.prog) w 65 64 i0 _ Tryz.underlying65 hi0 hz0 .i64 .i64 0 n (by omega) (by omega) (by rw [hz3];omega) (by omega)
 rw [hz2] at h
 refine ⟨_,h,fun j hj=>?_,below_new _ _,by rw [alloc_size];omega⟩
 have kb:=Box.last w 64 (madeCells z.cells (((n:Int)).toNat * 12)) rfl
 refine ⟨?_,kb.frozen j⟩
 rw [kb.cell j]
 have:j < (madeCells z.cells (((n:Int)).toNat * 12)).size:=by unfold madeCells;simp;omega
 rw [Array.getElem?_eq_getElem this];rfl
theorem wp_append_room {P:Program} {o:Oper} {a:Act} {w:World} {K:Act → World → Prop} {Q:Exit → Act → World → Prop}
 (hg:o.guard=none) (s x:Operand) (t:TypeId) (hop:o.op=Op.call { callee:=Callee.builtin Builtin.append,args:=#[s,x],argTypes:=#[t,t] })
 (e:TypeId) (i:TypeInfo) (size:Nat) (h1:P.underlying t=some (.slice e)) (h2:P.info? e=some i) (h4:i.size=size)
 (b n cap:Nat) (hs:a.eval s=.slice (some ⟨b,0,none⟩) n cap)
 (g c:Nat) (news:List Value) (hx:a.eval x=.slice (some ⟨g,0,none⟩) 1 c) (hn:news.length=1 * size) (hc:∀ j u,news[j]?=some u → w.cell? ⟨g,j,none⟩=some u) (h1c:∀ u ∈ news,u.oneCell'=true)
 (hroom:n+1≤cap) (hspare:∀ j,j < news.length → (w.cell? ⟨b,n * size+j,none⟩).isSome=true∧w.frozen? ⟨b,n * size+j,none⟩=false)
 (hK:K (a.put o.dst (.slice (some ⟨b,0,none⟩) (n+1) cap)) (w.setCells b (n * size) news)):Oper.wp P o a w K Q:=by
 have h:=step_append_room (ops:=#[]) (E:=False) (Q:=Q) hg s x t hop e i size h1 h2 h4 b 0 n cap hs ⟨g,0,none⟩ 1 c news hx hn (fun j u hu=>by rw [show (Addr.add ⟨g,0,none⟩ j)=⟨g,j,none⟩ by unfold Addr.add;split <;> simp_all];exact hc j u hu) h1c hroom (fun j hj=>by rw [Nat.zero_add];exact hspare j hj) (by rw [Nat.zero_add];exact hK)
 rw [if_pos (by simp [Region.wanted,hg])] at h
 exact h
/-- the row of a polygon's edges -/
def EdgesAt (w:World) (g:Nat) (l:List V2):Prop:=∀ i,i < l.length → EdgeAt w g i 3 (vecP (atV l i).1 (atV l i).2,vecP (atV l ((i+1) % l.length)).1 (atV l ((i+1) % l.length)).2)
set_option maxRecDepth 100000 in
set_option maxHeartbeats 6400000 in
theorem impl_boundaryOf (w:World) (B:Nat) (hB:B≤w.heap.size) (A:Option Addr) (n c:Nat) (l:List V2) (R:RdV w B A n l) (hn0:0 < n) (hn1:n≤1000) :
 Calls Tryz.prog 33 #[.slice A n c] w fun e w'=>∃ g,e=.returned (.slice (some ⟨g,0,none⟩) n n)∧w.heap.size≤g∧g < w'.heap.size∧EdgesAt w' g l∧Below w.heap.size w w':=by
 obtain ⟨hn,hx,hl,hwf⟩:=R
 obtain ⟨w0,hmk,hroom,hb0,hlt0⟩:=make_seg w n hl
 go_enter Tryz.func33,Tryz.ntmps33
 go_wp2_with fail
 go_loopw [3,11] (fun v i wr=>∃ k:Nat,k≤n∧i=.int .i64 k∧v=.slice (some ⟨w.heap.size,0,none⟩) k n∧RoomAt wr w.heap.size (n * 12)∧(∀ i,i < k → EdgeAt wr w.heap.size i 3 (vecP (atV l i).1 (atV l i).2,vecP (atV l ((i+1) % l.length)).1 (atV l ((i+1) % l.length)).2))∧Below w.heap.size w wr∧w.heap.size < wr.heap.size) (fun _ i _=>n - (intOf i).toNat)
 case atStart=>exact ⟨0,Nat.zero_le _,rfl,rfl,hroom,fun i hi=>absurd hi (Nat.not_lt_zero _),hb0,hlt0⟩
 case round =>
  clear hroom hb0 hmk hlt0
  obtain ⟨k,hk,rfl,rfl,hroom,hedges,hbel,hlw⟩:=hrel
  by_cases hlt:k < n
  · obtain ⟨ad,hA,hb1,hc1,hc2⟩:=(hx.below (hbel.mono hB)).vec (k:=k) (by omega)
    have hkl:k < l.length:=by omega
    have hmo:((k:Int)+1) % (n:Int)=(((k+1) % n:Nat):Int):=by rw [Int.natCast_emod];rfl
    have hp:(k+1) % n < n:=Nat.mod_lt _ (by omega)
    have HPL:Hid ((k+1) % l.length=(k+1) % n):=by show _=_;rw [hn]
    obtain ⟨p,hpe⟩:∃ p,p=(k+1) % n:=⟨_,rfl⟩
    rw [←hpe] at hmo hp HPL
    have hpl:p < l.length:=by omega
    obtain ⟨f1,f2⟩:=wfV_at hwf hkl
    obtain ⟨f3,f4⟩:=wfV_at hwf hpl
    have HE:Hid (∀ W l1 h1 l2 h2 v0 v1 v2 v3 v4 v5 v6 v7 v8 v9 v10 v11,RoomAt W w.heap.size (n * 12) → POwn W l1 h1 3 v0 v1 v2 v3 v4 v5 (vecP l[k].1 l[k].2) → POwn W l2 h2 3 v6 v7 v8 v9 v10 v11 (vecP l[p].1 l[p].2) → w.heap.size+1≤l1 → w.heap.size+1≤l2 → h1≤W.heap.size → h2≤W.heap.size → EdgeAt (W.setCells w.heap.size (k * 12) [v0,v1,v2,v3,v4,v5,v6,v7,v8,v9,v10,v11]) w.heap.size k 3 (vecP (atV l k).1 (atV l k).2,vecP (atV l ((k+1) % l.length)).1 (atV l ((k+1) % l.length)).2)):=by
     intro W l1 h1 l2 h2 v0 v1 v2 v3 v4 v5 v6 v7 v8 v9 v10 v11 q1 q2 q3 q4 q5 q6 q7
     rw [HPL.out,atV_eq hkl,atV_eq hpl]
     exact EdgeAt.new q1 (by omega) q2 q3 q4 q5 q6 q7
    clear hpe
    have HV1:=hide (fun (W:World)=>impl_PointOf W l[k].1 l[k].2 f1 f2)
    have HV2:=hide (fun (W:World)=>impl_PointOf W l[p].1 l[p].2 f3 f4)
    generalize l[k].1=x0 at *
    generalize l[k].2=y0 at *
    clear f1 f2 f3 f4
    have hbs:=hbel.size
    obtain ⟨W0,hW0⟩:∃ W0,W0=wr.alloc (.cells #[.int .i64 x0,.int .i64 y0] 44):=⟨_,rfl⟩
    have ka:Box W0 wr.heap.size 44 #[.int .i64 x0,.int .i64 y0]:=by rw [hW0];exact Box.last _ _ _ rfl
    have hT:Below wr.heap.size wr W0:=by rw [hW0];exact below_new _ _
    have hl0:=ka.lt
    have hroom:=hroom.below hlw hT
    have hedges:∀ i,i < k → EdgeAt W0 w.heap.size i 3 _:=fun i hi=>(hedges i hi).below hlw hT
    have hbel0:=hbel.trans (hT.mono hbs)
    subst hA
    go_upto_region 5 with fail
    rw [←hW0]
    clear hW0 hc1 hc2
    obtain ⟨ad',hA',hb2,hc1,hc2⟩:=(hx.below (hbel0.mono hB)).vec (k:=p) (by omega)
    cases hA'
    have hx':(ad.add (p * 2)).block < w.heap.size:=by rw [add_block];omega
    obtain ⟨ya0,ya1⟩:=ka.cells2
    generalize l[p].1=x2 at *
    generalize l[p].2=y2 at *
    have hm0:((k:Int)+1).tmod (n:Int)=(p:Int):=by rw [Int.tmod_eq_emod_of_nonneg (by omega)];exact hmo
    have hw1:IntKind.i64.wrap ((k:Int)+1)=(k:Int)+1:=IntWalk.i64_in _ (by omega)
    have hw2:IntKind.i64.wrap (p:Int)=(p:Int):=IntWalk.i64_in _ (by omega)
    have hi1:0≤(p:Int):=Int.natCast_nonneg _
    have hi2:(p:Int) < (n:Int):=by omega
    have hi3:0≤(k:Int)+1:=by omega
    have hi4:0 < (n:Int):=by omega
    have hi6:p < n:=hp
    have hi7:n ≠ 0:=by omega
    have hi8:(((n:Int) == 0)=false):=by simpa using hi7
    have HKS:=hide (fun (W:World) (hq:Below W0.heap.size W0 W)=>(⟨(hq.cell hl0).trans ya0,(hq.cell (p:=⟨_,_,none⟩) hl0).trans ya1,(hq.cell (by omega)).trans hc1,(hq.cell (p:=⟨_,_,none⟩) (by show (ad.add (p * 2)).block < _;omega)).trans hc2⟩:W.cell? ⟨wr.heap.size,0,none⟩=some (.int .i64 x0)∧W.cell? ⟨wr.heap.size,1,none⟩=some (.int .i64 y0)∧W.cell? (ad.add (p * 2))=some (.int .i64 x2)∧W.cell? ⟨(ad.add (p * 2)).block,(ad.add (p * 2)).off+1,none⟩=some (.int .i64 y2)))
    have HKT:=hide (fun (W:World) (o:Nat) (vs:List Value) (hs:W.cell? ⟨wr.heap.size,0,none⟩=some (.int .i64 x0)∧W.cell? ⟨wr.heap.size,1,none⟩=some (.int .i64 y0)∧W.cell? (ad.add (p * 2))=some (.int .i64 x2)∧W.cell? ⟨(ad.add (p * 2)).block,(ad.add (p * 2)).off+1,none⟩=some (.int .i64 y2))=>(⟨(World.cell?_setCells_out w.heap.size vs o W _ (fun e=>absurd e (by show wr.heap.size ≠ w.heap.size;omega))).trans hs.1,(World.cell?_setCells_out w.heap.size vs o W _ (fun e=>absurd e (by show wr.heap.size ≠ w.heap.size;omega))).trans hs.2.1,(World.cell?_setCells_out w.heap.size vs o W _ (fun e=>absurd e (by omega))).trans hs.2.2.1,(World.cell?_setCells_out w.heap.size vs o W _ (fun e=>absurd e (by show (ad.add (p * 2)).block ≠ _;omega))).trans hs.2.2.2⟩:(W.setCells w.heap.size o vs).cell? ⟨wr.heap.size,0,none⟩=some (.int .i64 x0)∧(W.setCells w.heap.size o vs).cell? ⟨wr.heap.size,1,none⟩=some (.int .i64 y0)∧(W.setCells w.heap.size o vs).cell? (ad.add (p * 2))=some (.int .i64 x2)∧(W.setCells w.heap.size o vs).cell? ⟨(ad.add (p * 2)).block,(ad.add (p * 2)).off+1,none⟩=some (.int .i64 y2)))
    have HS0:Hid (Below W0.heap.size W0 W0.drew):=(Below.refl _ _).drew
    have HRM:=hide hroom
    have HED:=hide hedges
    clear ka hroom hedges
    obtain ⟨i0,z0,hi0,hzA,hzB,hzC,hzD⟩:=seg_info
    refine wp_region_held_drew (S:=(fun w'=>w'.cell? ⟨wr.heap.size,0,none⟩=some (.int .i64 x0)∧w'.cell? ⟨wr.heap.size,1,none⟩=some (.int .i64 y0)∧w'.cell? (ad.add (p * 2))=some (.int .i64 x2)∧w'.cell? ⟨(ad.add (p * 2)).block,(ad.add (p * 2)).off+1,none⟩=some (.int .i64 y2))) (by kernel_rfl) (HKS.out _ HS0.out) (fun hHeld=>?_)
    show wpAnyH _ _ _ _ _ 16 _ _ _
    refine takeTQ (i:=0) (t:=16) (v:=?_) rfl (by kernel_rfl) (by kernel_rfl) (by kernel_rfl) (fun _ _ _ h=>h) rfl (by rfl) ?_ hHeld ?_
    rotate_left 1
    · intro w hSw;(try dsimp only at hSw);go_simp;with_reducible rfl
    refine takeTQ (i:=1) (t:=17) (v:=?_) rfl (by kernel_rfl) (by kernel_rfl) (by kernel_rfl) (fun _ _ _ h=>h) rfl (by rfl) ?_ hHeld ?_
    rotate_left 1
    · intro w hSw;(try dsimp only at hSw);go_simp;with_reducible rfl
    refine takeTQ (i:=3) (t:=19) (v:=?_) rfl (by kernel_rfl) (by kernel_rfl) (by kernel_rfl) (fun _ _ _ h=>h) rfl (by rfl) ?_ hHeld ?_
    rotate_left 1
    · intro w hSw;(try dsimp only at hSw);go_simp;with_reducible rfl
    refine takeTQ (i:=4) (t:=20) (v:=?_) rfl (by kernel_rfl) (by kernel_rfl) (by kernel_rfl) (fun _ _ _ h=>h) rfl (by rfl) ?_ hHeld ?_
    rotate_left 1
    · intro w hSw;(try dsimp only at hSw);go_simp;with_reducible rfl
    refine takeTQ (i:=5) (t:=21) (v:=?_) rfl (by kernel_rfl) (by kernel_rfl) (by kernel_rfl) (fun _ _ _ h=>h) rfl (by rfl) ?_ hHeld ?_
    rotate_left 1
    · intro w hSw;(try dsimp only at hSw);go_simp;with_reducible rfl
    refine takeTQ (i:=6) (t:=22) (v:=?_) rfl (by kernel_rfl) (by kernel_rfl) (by kernel_rfl) (fun _ _ _ h=>h) rfl (by rfl) ?_ hHeld ?_
    rotate_left 1
    · intro w hSw;(try dsimp only at hSw);go_simp;with_reducible rfl
    refine takeTQ (i:=7) (t:=23) (v:=?_) rfl (by kernel_rfl) (by kernel_rfl) (by kernel_rfl) (fun _ _ _ h=>h) rfl (by rfl) ?_ hHeld ?_
    rotate_left 1
    · intro w hSw;(try dsimp only at hSw);go_simp;with_reducible rfl
    refine takeTQ (i:=8) (t:=24) (v:=?_) rfl (by kernel_rfl) (by kernel_rfl) (by kernel_rfl) (fun _ _ _ h=>h) rfl (by rfl) ?_ hHeld ?_
    rotate_left 1
    · intro w hSw;(try dsimp only at hSw);go_simp;with_reducible rfl
    refine takeTQ (i:=9) (t:=25) (v:=?_) rfl (by kernel_rfl) (by kernel_rfl) (by kernel_rfl) (fun _ _ _ h=>h) rfl (by rfl) ?_ hHeld ?_
    rotate_left 1
    · intro w hSw;(try dsimp only at hSw);go_simp;with_reducible rfl
    refine takeTQ (i:=10) (t:=26) (v:=?_) rfl (by kernel_rfl) (by kernel_rfl) (by kernel_rfl) (fun _ _ _ h=>h) rfl (by rfl) ?_ hHeld ?_
    rotate_left 1
    · intro w hSw;(try dsimp only at hSw);go_simp;with_reducible rfl
    refine wpAnyH_ready (rs:=[2]) (by kernel_rfl) (by simp) ?_
    refine AllReadyH.cons rfl (fun K hK=>?_) AllReadyH.nil
    simp only [List.getElem_toArray,List.getElem_cons_succ,List.getElem_cons_zero]
    go_simp
    (have HX:=HS0.out;(with_reducible refine Calls.mono (HV1.out _) ?_);rintro e u1 ⟨d0,d1,d2,d3,d4,d5,rfl,od,hb1⟩;obtain ⟨db,dA,dn,dc,dD,dm,dk,dyb,dyA,dyn,dyc,dyD,dym,dyk,rfl,rfl,rfl,rfl,rfl,rfl⟩:=od.cut;have od:POwn u1 W0.heap.size u1.heap.size 3 (.bool db) (.slice dA dn dc) (.slice dD dm dk) (.bool dyb) (.slice dyA dyn dyc) (.slice dyD dym dyk) _:=od;have hz1:W0.heap.size≤u1.heap.size:=hb1.size;have HS1:=hide (below_then HX hb1);clear HX)
    go_wp2_with fail
    refine hK.out _ _ (HKS.out _ HS1.out) (fun hHeld=>?_)
    clear hK K
    refine wpAnyH_ready (rs:=[11]) (by kernel_rfl) (by simp) ?_
    refine AllReadyH.cons rfl (fun K hK=>?_) AllReadyH.nil
    simp only [List.getElem_toArray,List.getElem_cons_succ,List.getElem_cons_zero]
    go_simp
    (have HX:=HS1.out;(with_reducible refine Calls.mono (HV2.out _) ?_);rintro e u2 ⟨g0,g1,g2,g3,g4,g5,rfl,og,hb2⟩;obtain ⟨gb,gA,gn,gc,gD,gm,gk,gyb,gyA,gyn,gyc,gyD,gym,gyk,rfl,rfl,rfl,rfl,rfl,rfl⟩:=og.cut;have og:POwn u2 u1.heap.size u2.heap.size 3 (.bool gb) (.slice gA gn gc) (.slice gD gm gk) (.bool gyb) (.slice gyA gyn gyc) (.slice gyD gym gyk) _:=og;have od:=od.below hb2 (Nat.le_refl _);have hz2:u1.heap.size≤u2.heap.size:=hb2.size;have HS2:=hide (below_then HX hb2);clear HX)
    go_wp2_with fail
    refine hK.out _ _ (HKS.out _ HS2.out) (fun hHeld=>?_)
    clear hK K
    refine takeTQ (i:=12) (t:=28) (v:=?_) rfl (by kernel_rfl) (by kernel_rfl) (by kernel_rfl) (fun _ _ _ h=>h) rfl (by rfl) ?_ hHeld ?_
    rotate_left 1
    · intro w hSw;(try dsimp only at hSw);go_simp;with_reducible rfl
    refine wpAnyH_ready (rs:=[13]) (by kernel_rfl) (by simp) ?_
    refine AllReadyH.cons rfl (fun K hK=>?_) AllReadyH.nil
    simp only [List.getElem_toArray,List.getElem_cons_succ,List.getElem_cons_zero]
    go_wp2_with fail
    obtain ⟨W3,hW3⟩:∃ x,x=u2.alloc (.cells #[.bool db,.slice dA dn dc,.slice dD dm dk,.bool dyb,.slice dyA dyn dyc,.slice dyD dym dyk,.bool gb,.slice gA gn gc,.slice gD gm gk,.bool gyb,.slice gyA gyn gyc,.slice gyD gym gyk] 64):=⟨_,rfl⟩
    have b3:Below u2.heap.size u2 W3:=by rw [hW3];exact below_new _ _
    have k3:Box W3 u2.heap.size 64 #[.bool db,.slice dA dn dc,.slice dD dm dk,.bool dyb,.slice dyA dyn dyc,.slice dyD dym dyk,.bool gb,.slice gA gn gc,.slice gD gm gk,.bool gyb,.slice gyA gyn gyc,.slice gyD gym gyk]:=by rw [hW3];exact Box.last _ _ _ rfl
    have HS3:=hide (below_then HS2.out b3)
    have od:=od.below b3 (by omega)
    have og:=og.below b3 (Nat.le_refl _)
    have hz3:=b3.size
    rw [←hW3]
    refine hK.out _ _ (HKS.out _ HS3.out) (fun hHeld=>?_)
    clear hK K hW3
    refine wpAnyH_ready (rs:=[14]) (by kernel_rfl) (by simp) ?_
    refine AllReadyH.cons rfl (fun K hK=>?_) AllReadyH.nil
    simp only [List.getElem_toArray,List.getElem_cons_succ,List.getElem_cons_zero]
    have hlW0:w.heap.size < W0.heap.size:=by omega
    have hrm:=HRM.out.below hlW0 HS3.out
    rw [if_pos (by rfl)]
    refine wp_append_room rfl (.tmp 16) (.tmp 29) 65 rfl 64 i0 12 Tryz.underlying65 hi0 hzC w.heap.size k n rfl u2.heap.size 1 [.bool db,.slice dA dn dc,.slice dD dm dk,.bool dyb,.slice dyA dyn dyc,.slice dyD dym dyk,.bool gb,.slice gA gn gc,.slice gD gm gk,.bool gyb,.slice gyA gyn gyc,.slice gyD gym gyk] rfl rfl (fun j u hu=>?_) (by simp [Value.oneCell']) (by omega) (fun j hj=>?_) ?_
    · rw [k3.cell j]
      simpa using hu
    · have h12:j < 12:=by simpa using hj
      exact hrm (k * 12+j) (by omega)
    refine hK.out _ _ (HKT.out _ _ _ (HKS.out _ HS3.out)) (fun hHeld=>?_)
    clear hK K
    refine takeTQ (i:=15) (t:=3) (v:=?_) rfl (by kernel_rfl) (by kernel_rfl) (by kernel_rfl) (fun _ _ _ h=>h) rfl (by rfl) ?_ hHeld ?_
    rotate_left 1
    · intro w hSw;(try dsimp only at hSw);go_simp;with_reducible rfl
    refine wpAnyH_done (by kernel_rfl) ?_ _
    have hEN:=hide (HE.out W3 _ _ _ _ (.bool db) (.slice dA dn dc) (.slice dD dm dk) (.bool dyb) (.slice dyA dyn dyc) (.slice dyD dym dyk) (.bool gb) (.slice gA gn gc) (.slice gD gm gk) (.bool gyb) (.slice gyA gyn gyc) (.slice gyD gym gyk) hrm od og (by omega) (by omega) (by omega) (by omega))
    have hED:=hide (fun i (hi:i < k)=>((HED.out i hi).below hlW0 HS3.out).put (k:=k) hi [.bool db,.slice dA dn dc,.slice dD dm dk,.bool dyb,.slice dyA dyn dyc,.slice dyD dym dyk,.bool gb,.slice gA gn gc,.slice gD gm gk,.bool gyb,.slice gyA gyn gyc,.slice gyD gym gyk])
    have hRM:=hide (hrm.put (k:=k * 12) [.bool db,.slice dA dn dc,.slice dD dm dk,.bool dyb,.slice dyA dyn dyc,.slice dyD dym dyk,.bool gb,.slice gA gn gc,.slice gD gm gk,.bool gyb,.slice gyA gyn gyc,.slice gyD gym gyk])
    have hbn:=hbel0.trans (HS3.out.mono (by omega))
    have hbn2:=hide (hbn.trans (Aside.below (setCells_aside w.heap.size [.bool db,.slice dA dn dc,.slice dD dm dk,.bool dyb,.slice dyA dyn dyc,.slice dyD dym dyk,.bool gb,.slice gA gn gc,.slice gD gm gk,.bool gyb,.slice gyA gyn gyc,.slice gyD gym gyk] (k * 12) W3) (Nat.le_refl _) hbn.size))
    have hsz:=setCells_size' w.heap.size [.bool db,.slice dA dn dc,.slice dD dm dk,.bool dyb,.slice dyA dyn dyc,.slice dyD dym dyk,.bool gb,.slice gA gn gc,.slice gD gm gk,.bool gyb,.slice gyA gyn gyc,.slice gyD gym gyk] (k * 12) W3
    clear od og k3 hrm
    go_wp2_with fail
    go_roundw
    case rel=>exact ⟨k+1,by omega,by go_num,rfl,hRM.out,fun i hi=>by
     by_cases e:i=k
     · subst e;exact hEN.out
     · exact hED.out i (by omega),hbn2.out,by omega⟩
    case measure=>simp [intOf];omega
  · obtain rfl:k=n:=by omega
    clear hx hroom
    go_wp2_with fail
    go_ret
    exact ⟨_,rfl,Nat.le_refl _,hlw,fun i hi=>hedges i (by omega),hbel⟩
end Go.Proofs.YtafhhemojdblpaaGreat
