/-
  The texts SegK, SegF, put together; each has its own heading below. No condition of ours.
-/
import Derived.Test.YtafhhemojdblpaaGreatSPG
import Derived.Test.YtafhhemojdblpaaGreatSegS
import Derived.Test.YtafhhemojdblpaaGreatSGC
import Derived.Deep.RegionHeld3
import Derived.Deep.CutRange
import Derived.Sort.AtCall
/-
  ContainsPoint at points over a scale.
-/
namespace Go.Proofs.YtafhhemojdblpaaGreat
open Go.RowKit
set_option linter.unusedVariables false
def sgS (l:List V2) (T:Int × Int × Int) (i:Nat):Int:=cmpV (((atV l ((i+1) % l.length)).1 - (atV l i).1) * (T.2.1 - (atV l i).2 * T.2.2)) (((atV l ((i+1) % l.length)).2 - (atV l i).2) * (T.1 - (atV l i).1 * T.2.2))
def inS (l:List V2) (T:Int × Int × Int):Nat → Int
 | 0=>1
 | k+1=>min (inS l T k) (sgS l T k)
noncomputable def contS (l:List V2) (T:Int × Int × Int):Int:=if polyB l=true then inS l T l.length else -1
theorem sgS_range (l:List V2) (T:Int × Int × Int) (i:Nat):-1≤sgS l T i∧sgS l T i≤1:=by unfold sgS cmpV;split <;> (try split) <;> omega
theorem inS_range (l:List V2) (T:Int × Int × Int):∀ k,-1≤inS l T k∧inS l T k≤1:=by
 intro k
 induction k with
 | zero=>simp [inS]
 | succ k ih =>
   have:=sgS_range l T k
   show -1≤min _ _∧min _ _≤1
   omega
theorem inS_le (l:List V2) (T:Int × Int × Int):∀ k i,i < k → inS l T k≤sgS l T i:=by
 intro k
 induction k with
 | zero=>intro i h;omega
 | succ k ih =>
   intro i h
   show min _ _≤_
   by_cases e:i=k
   · subst e;omega
   · have:=ih i (by omega);omega
theorem inS_nn (l:List V2) (T:Int × Int × Int):∀ k,(∀ i,i < k → 0≤sgS l T i) → 0≤inS l T k:=by
 intro k
 induction k with
 | zero=>intro _;simp [inS]
 | succ k ih =>
   intro h
   have h1:=ih fun i hi=>h i (by omega)
   have h2:=h k (by omega)
   show 0≤min _ _
   omega
theorem cmp_sgS {l:List V2} {T:Int × Int × Int} {k p:Nat} (hk:k < l.length) (hp:p < l.length) (e:(k+1) % l.length=p) :
 cmpV ((l[p].1 - l[k].1) * (T.2.1 - l[k].2 * T.2.2)) ((l[p].2 - l[k].2) * (T.1 - l[k].1 * T.2.2))=sgS l T k:=by
 unfold sgS
 rw [e,atV_eq hk,atV_eq hp]
theorem cap_pos {z:Int} (h:0 < z):(capZ z).1=false:=by
 show (decide (z < 0) && _)=false
 rw [decide_eq_false (by omega)];rfl
theorem sc_parts {P:PQ} (h:ratQ P.1=true) (k:ratQ P.2=true) {x y z:Int} (hs:scP P=(x,y,z)) (hz:0 < z) :
 mulZ P.1.1.1 P.1.1.2 false P.2.2=capZ x∧mulZ P.2.1.1 P.2.1.2 false P.1.2=capZ y∧mulL P.1.2 P.2.2=(capZ z).2:=by
 have e1:=num_mulZ (ratB_big h) (ratB_den k)
 have e2:=num_mulZ (ratB_big k) (ratB_den h)
 have l3:=lt60 (denB h k)
 obtain ⟨e3,_,_⟩:=den_mulL (ratB_den h) (ratB_den k) l3
 have v1:val P.2.2=(natV P.2.2:Int):=zval (ratB_den k)
 have v2:val P.1.2=(natV P.1.2:Int):=zval (ratB_den h)
 unfold scP at hs
 injection hs with h1 hs
 injection hs with h2 h3
 refine ⟨by rw [e1,v1,h1],by rw [e2,v2,h2],?_⟩
 rw [e3,←h3,←Int.natCast_mul]
 show _=capL _
 rw [Int.natAbs_natCast,capL_of l3]
set_option maxRecDepth 100000 in
set_option maxHeartbeats 3200000 in
theorem impl_ContainsS (w:World) (B:Nat) (hB:B≤w.heap.size) (A:Option Addr) (n c:Nat) (l:List V2) (R:RdV w B A n l) {p0 p1 p2 p3 p4 p5:Value} {P:PQ} (hP:PIn w B p0 p1 p2 p3 p4 p5 P) (hv1:ratQ P.1=true) (hv2:ratQ P.2=true) {x y z:Int} (hsc:scP P=(x,y,z)) (bx:x.natAbs≤1000000) (by_:y.natAbs≤1000000) (bz:0 < z∧z≤1000) :
 Calls Tryz.prog 14 #[.slice A n c,.agg #[p0,p1,p2,p3,p4,p5]] w fun e w'=>e=.returned (.int .i64 (contS l (x,y,z)))∧Below w.heap.size w w':=by
 obtain ⟨W0,hW0⟩:∃ W0,W0=w.alloc (.cells #[p0,p1,p2,p3,p4,p5] 29):=⟨_,rfl⟩
 have hT0:Below w.heap.size w W0:=by rw [hW0];exact below_new _ _
 have kp:Box W0 w.heap.size 29 #[p0,p1,p2,p3,p4,p5]:=by rw [hW0];exact Box.last _ _ _ rfl
 have hB0:B≤W0.heap.size:=Nat.le_trans hB hT0.size
 have R0:=R.below (hT0.mono hB)
 have P0:=hP.below (hT0.mono hB)
 have HP:=hide (impl_IsPolygon W0 B hB0 A n c l R0)
 clear R hP
 cases ep:polyB l with
 | false =>
   have HN:Hid (contS l (x,y,z) = -1):=by show _=_;unfold contS;rw [ep];rfl
   rw [ep] at HP
   clear R0 P0 ep
   go_enter Tryz.func14,Tryz.ntmps14
   go_upto_region 1 with fail
   rw [←hW0]
   clear hW0
   go_wp2_with fail
   refine HP.out.mono ?_
   rintro e w1 ⟨rfl,hb1⟩
   go_wp2_with fail
   go_ret
   exact ⟨ret_int HN.out.symm,below_then hT0 hb1⟩
 | true =>
   have hpp:=polyB_iff.1 ep
   have h3:=hpp.1
   have h16:=hpp.2.1
   have HQ:Hid (contS l (x,y,z)=inS l (x,y,z) l.length):=by show _=_;unfold contS;rw [if_pos ep]
   have HVX:=hide (fun k (hk:k < l.length)=>poly_vec hpp hk)
   rw [ep] at HP
   have HI:=hide (fun (W:World) (hb:Below W0.heap.size W0 W)=>impl_IsValidPoint W B (Nat.le_trans hB0 hb.size) (P0.below (hb.mono hB0)))
   have hq:(ratQ P.1 && ratQ P.2)=true:=by rw [hv1,hv2];rfl
   rw [hq] at HI
   obtain ⟨⟨A1,n1,c1,D1,m1,d1,rfl,rfl,rfl,r1,r2,-,-⟩,⟨A2,n2,c2,D2,m2,d2,rfl,rfl,rfl,r3,r4,-,-⟩⟩:=P0
   have HS:=hide (fun (W:World) (hb:Below W0.heap.size W0 W)=>impl_scaledOf W B (Nat.le_trans hB0 hb.size) P.1.1.1 A1 n1 c1 P.1.1.2 (r1.below (hb.mono hB0)) D1 m1 d1 P.1.2 (r2.below (hb.mono hB0)) P.2.1.1 A2 n2 c2 P.2.1.2 (r3.below (hb.mono hB0)) D2 m2 d2 P.2.2 (r4.below (hb.mono hB0)))
   obtain ⟨e1,e2,e3⟩:=sc_parts hv1 hv2 hsc (by omega)
   rw [e1,e2,e3] at HS
   clear ep hpp hq r1 r2 r3 r4 e1 e2 e3
   obtain ⟨hn,hx,hl,hwf⟩:=R0
   have HKP:=hide kp
   obtain ⟨⟨q0,q1,q2,q3,q4,q5⟩,-⟩:=kp.facts6
   go_enter Tryz.func14,Tryz.ntmps14
   go_upto_region 1 with fail
   rw [←hW0]
   clear hW0 kp
   go_wp2_with fail
   refine HP.out.mono ?_
   rintro e w1 ⟨rfl,hb1⟩
   clear q0 q1 q2 q3 q4 q5
   obtain ⟨⟨q0,q1,q2,q3,q4,q5⟩,-⟩:=(HKP.out.below hb1 HKP.out.lt).facts6
   go_wp2_with fail
   refine (HI.out _ hb1).mono ?_
   rintro e w2 ⟨rfl,hb2⟩
   clear q0 q1 q2 q3 q4 q5
   have hb2:=below_then hb1 hb2
   obtain ⟨⟨q0,q1,q2,q3,q4,q5⟩,-⟩:=(HKP.out.below hb2 HKP.out.lt).facts6
   clear hb1
   go_wp2_with fail
   refine (HS.out _ hb2).mono ?_
   rintro e w3 ⟨v1,v2,v3,rfl,o1,o2,o3,hb3⟩
   obtain ⟨A3,c3,rfl⟩:=o1.form
   obtain ⟨A4,c4,rfl⟩:=o2.form
   obtain ⟨A5,c5,rfl⟩:=o3.form
   have hb3:=below_then hb2 hb3
   have hT3:=below_then hT0 hb3
   have RX:=RdI.of_own o1 (capZ_len2 _) (capZ_limbs _)
   have RY:=RdI.of_own o2 (capZ_len2 _) (capZ_limbs _)
   have RS:=RdI.of_own o3 (capZ_len2 _) (capZ_limbs _)
   clear q0 q1 q2 q3 q4 q5 hb2 o1 o2 o3 HP HI HS HKP
   obtain ⟨W4,hW4⟩:∃ W4,W4=w3.alloc (.cells #[.bool (capZ x).1,.slice A3 (capZ x).2.length c3,.bool (capZ y).1,.slice A4 (capZ y).2.length c4,.bool false,.slice A5 (capZ z).2.length c5] 76):=⟨_,rfl⟩
   have hb34:Below w3.heap.size w3 W4:=by rw [hW4];exact below_new _ _
   have k5:Box W4 w3.heap.size 76 #[.bool (capZ x).1,.slice A3 (capZ x).2.length c3,.bool (capZ y).1,.slice A4 (capZ y).2.length c4,.bool false,.slice A5 (capZ z).2.length c5]:=by rw [hW4];exact Box.last _ _ _ rfl
   have hT4:=below_then hT3 hb34
   have RX:=RX.below hb34
   have RY:=RY.below hb34
   have RS:=RS.below hb34
   have h34:=hb34.size
   have hx4:=(hx.below (hb3.mono hB0)).below (hb34.mono (Nat.le_trans hB hT3.size))
   have hBW:B≤W4.heap.size:=Nat.le_trans hB hT4.size
   obtain ⟨g5,hg5⟩:∃ g5,g5=w3.heap.size:=⟨_,rfl⟩
   rw [←hg5] at k5
   go_upto_region 4 with fail
   rw [←hW4,←hg5]
   clear hW4 hg5 hb34 hb3 hx
   obtain ⟨V4,hV⟩:∃ z,z=W4:=⟨_,rfl⟩
   subst hV
   go_wp2_with fail
   go_loopw [6,22] (fun s i wr=>∃ k:Nat,k≤n∧i=.int .i64 k∧s=.int .i64 (inS l (x,y,z) k)∧Below V4.heap.size V4 wr) (fun _ i _=>n - (intOf i).toNat)
   case atStart=>exact ⟨0,Nat.zero_le _,rfl,rfl,Below.refl _ _⟩
   case round =>
    obtain ⟨k,hk,rfl,rfl,hbel⟩:=hrel
    by_cases hlt:k < n
    · obtain ⟨ad,hA,hb1,hc1,hc2⟩:=(hx4.below (hbel.mono hBW)).vec (k:=k) (by omega)
      have hkl:k < l.length:=by omega
      have hmo:((k:Int)+1) % (n:Int)=(((k+1) % n:Nat):Int):=by rw [Int.natCast_emod];rfl
      have hp:(k+1) % n < n:=Nat.mod_lt _ (by omega)
      have hpl:Hid ((k+1) % l.length=(k+1) % n):=by show _=_;rw [hn]
      generalize (k+1) % n=p at *
      have hpl2:p < l.length:=by omega
      have hvk:=HVX.out k hkl
      have hvp:=HVX.out p hpl2
      rw [atV_eq hkl] at hvk
      rw [atV_eq hpl2] at hvp
      have HC:=hide (fun (W:World) (hb:Below V4.heap.size V4 W)=>show Calls Tryz.prog 47 #[.agg #[.bool (capZ x).1,.slice A3 (capZ x).2.length c3,.bool (capZ y).1,.slice A4 (capZ y).2.length c4,.bool false,.slice A5 (capZ z).2.length c5],.agg #[.int .i64 l[k].1,.int .i64 l[k].2],.agg #[.int .i64 l[p].1,.int .i64 l[p].2]] W fun e w'=>e=.returned (.int .i64 (sgS l (x,y,z) k))∧Below W.heap.size W w' from by
       have h:=impl_sideOf W V4.heap.size hb.size x y z A3 A4 A5 _ c3 _ c4 _ c5 (pair_up (RX.below (hb.mono h34)) h34) (pair_up (RY.below (hb.mono h34)) h34) (pair_up (RS.below (hb.mono h34)) h34) (by omega) (by omega) (by omega) l[k].1 l[k].2 l[p].1 l[p].2 hvk hvp
       rw [cap_pos bz.1,show cmpV ((l[p].1 - l[k].1) * (y - l[k].2 * z)) ((l[p].2 - l[k].2) * (x - l[k].1 * z))=sgS l (x,y,z) k from cmp_sgS (T:=(x,y,z)) hkl hpl2 hpl.out] at h
       exact h)
      have hsr:=sgS_range l (x,y,z) k
      have hir:=inS_range l (x,y,z) k
      have HN1:Hid (inS l (x,y,z) (k+1)=min (inS l (x,y,z) k) (sgS l (x,y,z) k)):=rfl
      have HNg:Hid (sgS l (x,y,z) k < 0 → inS l (x,y,z) l.length = -1):=fun h=>by
       have h1:=inS_le l (x,y,z) l.length k hkl
       have h2:=(inS_range l (x,y,z) l.length).1
       omega
      generalize sgS l (x,y,z) k=sg at *
      generalize inS l (x,y,z) k=ac at *
      clear hvk hvp
      generalize l[k].1=x0 at *
      generalize l[k].2=y0 at *
      obtain ⟨W0',hW0⟩:∃ W0',W0'=wr.alloc (.cells #[.int .i64 x0,.int .i64 y0] 44):=⟨_,rfl⟩
      have ka:Box W0' wr.heap.size 44 #[.int .i64 x0,.int .i64 y0]:=by rw [hW0];exact Box.last _ _ _ rfl
      have hT:Below wr.heap.size wr W0':=by rw [hW0];exact below_new _ _
      have hT0':=hbel.trans (hT.mono hbel.size)
      subst hA
      go_upto_region 7 with fail
      rw [←hW0]
      clear hW0 hc1 hc2
      obtain ⟨ad',hA',hb2,hc1,hc2⟩:=(hx4.below (hT0'.mono hBW)).vec (k:=p) (by omega)
      cases hA'
      have hx':(ad.add (p * 2)).block < W0'.heap.size:=by rw [add_block];have:=hT0'.size;omega
      have hl0:=ka.lt
      have k5':=k5.below hT0' k5.lt
      have hl5:=k5'.lt
      obtain ⟨ya0,ya1⟩:=ka.cells2
      obtain ⟨⟨q0,q1,q2,q3,q4,q5⟩,-⟩:=k5'.facts6
      generalize l[p].1=x2 at *
      generalize l[p].2=y2 at *
      have hm0:((k:Int)+1).tmod (n:Int)=(p:Int):=by rw [Int.tmod_eq_emod_of_nonneg (by omega)];exact hmo
      have hw1:IntKind.i64.wrap ((k:Int)+1)=(k:Int)+1:=IntWalk.i64_in _ (by omega)
      have hw2:IntKind.i64.wrap (p:Int)=(p:Int):=IntWalk.i64_in _ (by omega)
      have hi1:0≤(p:Int):=Int.natCast_nonneg _
      have hi2:(p:Int) < (n:Int):=by omega
      have hi3:0≤(k:Int)+1:=by omega
      have hi4:0 < (n:Int):=by omega
      have hi6:p < n:=hp
      have hi7:n ≠ 0:=by omega
      have hi8:(((n:Int) == 0)=false):=by simpa using hi7
      clear hpl RX RY RS k5' ka
      go_region_held3 (fun w'=>w'.cell? ⟨wr.heap.size,0,none⟩=some (.int .i64 x0)∧w'.cell? ⟨wr.heap.size,1,none⟩=some (.int .i64 y0)∧w'.cell? (ad.add (p * 2))=some (.int .i64 x2)∧w'.cell? ⟨(ad.add (p * 2)).block,(ad.add (p * 2)).off+1,none⟩=some (.int .i64 y2)∧w'.cell? ⟨g5,0,none⟩=some (.bool (capZ x).1)∧w'.cell? ⟨g5,1,none⟩=some (.slice A3 (capZ x).2.length c3)∧w'.cell? ⟨g5,2,none⟩=some (.bool (capZ y).1)∧w'.cell? ⟨g5,3,none⟩=some (.slice A4 (capZ y).2.length c4)∧w'.cell? ⟨g5,4,none⟩=some (.bool false)∧w'.cell? ⟨g5,5,none⟩=some (.slice A5 (capZ z).2.length c5)∧Below W0'.heap.size W0' w')
       (first | exact ⟨ya0,ya1,hc1,hc2,q0,q1,q2,q3,q4,q5,(Below.refl _ _).drew⟩ | exact ⟨(hb9.cell hl0).trans ya0,(hb9.cell (p:=⟨_,_,none⟩) hl0).trans ya1,(hb9.cell hx').trans hc1,(hb9.cell (p:=⟨_,_,none⟩) hx').trans hc2,(hb9.cell (p:=⟨_,_,none⟩) hl5).trans q0,(hb9.cell (p:=⟨_,_,none⟩) hl5).trans q1,(hb9.cell (p:=⟨_,_,none⟩) hl5).trans q2,(hb9.cell (p:=⟨_,_,none⟩) hl5).trans q3,(hb9.cell (p:=⟨_,_,none⟩) hl5).trans q4,(hb9.cell (p:=⟨_,_,none⟩) hl5).trans q5,undrew hb9⟩)
       (first | (go_at_call 47;(with_reducible refine Calls.mono (HC.out _ hT0'.drew) ?_);rintro e w1 ⟨rfl,hb9⟩))
      have hT1:=hT0'.trans ((undrew hb9).mono hT0'.size)
      by_cases hs:sg < 0
      · have HN:=hide (HNg.out hs)
        go_wp2_with fail
        go_ret
        exact ⟨ret_int (by rw [HQ.out,HN.out]),below_then hT4 hT1⟩
      · go_wp2_with fail
        go_roundw
        case rel=>exact ⟨k+1,by omega,by go_num,by first | (rw [HN1.out];congr 1;split <;> omega) | rw [HN1.out],hT1⟩
        case measure=>simp [intOf];omega
    · obtain rfl:k=n:=by omega
      have HN:Hid (inS l (x,y,z) l.length=inS l (x,y,z) k):=by show _=_;rw [hn]
      clear hx4
      go_wp2_with fail
      go_ret
      exact ⟨ret_int (by rw [HQ.out,HN.out]),below_then hT4 hbel⟩
end Go.Proofs.YtafhhemojdblpaaGreat
/-
  The program's segments: which edge a segment meets, SegmentMeets.
-/
namespace Go.Proofs.YtafhhemojdblpaaGreat
open Go.RowKit
set_option linter.unusedVariables false
def edgeP (l:List V2) (i:Nat):PQ × PQ:=(vecP (atV l i).1 (atV l i).2,vecP (atV l ((i+1) % l.length)).1 (atV l ((i+1) % l.length)).2)
theorem vecP_ok {v:V2} (h:vecV v=true):ratQ (vecP v.1 v.2).1=true∧ratQ (vecP v.1 v.2).2=true:=by
 have hb:=vecB_bounds (x:=v.1) (y:=v.2) h
 exact ⟨ratQ_int hb.1 hb.2.1,ratQ_int hb.2.2.1 hb.2.2.2⟩
theorem edge_ok {l:List V2} (h:polyP l) {i:Nat} (hi:i < l.length):validG (edgeP l i) :=
 ⟨vecP_ok (poly_vec h hi),vecP_ok (poly_vec h (Nat.mod_lt _ (by omega)))⟩
theorem EdgeAt.seg {w:World} {g i:Nat} {S:PQ × PQ} (h:EdgeAt w g i 3 S) (f:PFit S.1∧PFit S.2):∃ v0 v1 v2 v3 v4 v5 v6 v7 v8 v9 v10 v11,(∀ j u,[v0,v1,v2,v3,v4,v5,v6,v7,v8,v9,v10,v11][j]?=some u → w.cell? ⟨g,i * 12+j,none⟩=some u)∧GIn w w.heap.size v0 v1 v2 v3 v4 v5 v6 v7 v8 v9 v10 v11 S:=by
 obtain ⟨v0,v1,v2,v3,v4,v5,v6,v7,v8,v9,v10,v11,l1,h1,l2,h2,hc,o1,o2,a,b,c,d⟩:=h
 exact ⟨v0,v1,v2,v3,v4,v5,v6,v7,v8,v9,v10,v11,hc,o1.in_ f.1 c,o2.in_ f.2 d⟩
/-- what a row's edges say of a segment -/
def anyE (S:PQ × PQ) (l:List V2):Bool:=(List.range l.length).any fun i=>meetsB S (edgeP l i)
theorem anyE_iff {S:PQ × PQ} {l:List V2}:anyE S l=true ↔ ∃ i,i < l.length∧meetsB S (edgeP l i)=true:=by
 unfold anyE
 rw [List.any_eq_true]
 constructor
 · rintro ⟨i,hi,h⟩;exact ⟨i,List.mem_range.1 hi,h⟩
 · rintro ⟨i,hi,h⟩;exact ⟨i,List.mem_range.2 hi,h⟩
set_option maxRecDepth 100000 in
set_option maxHeartbeats 3200000 in
theorem impl_indexMeets (w:World) (B:Nat) (hB:B≤w.heap.size) {p0 p1 p2 p3 p4 p5 p6 p7 p8 p9 p10 p11:Value} {S:PQ × PQ} (hs:GIn w B p0 p1 p2 p3 p4 p5 p6 p7 p8 p9 p10 p11 S) (zs:validG S) (g n:Nat) (l:List V2) (hp:polyP l) (hn:l.length=n) (hE:EdgesAt w g l) (hg:g < w.heap.size) :
 Calls Tryz.prog 79 #[.slice (some ⟨g,0,none⟩) n n,.func (.func 44) #[.agg #[p0,p1,p2,p3,p4,p5,p6,p7,p8,p9,p10,p11]] #[]] w fun e w'=>∃ r:Int,e=.returned (.int .i64 r)∧(-1≤r∧r≤n)∧(0≤r ↔ anyE S l=true)∧Below w.heap.size w w':=by
 have hn16:n≤16:=by have:=hp.2.1;omega
 go_enter Tryz.func79,Tryz.ntmps79
 go_wp2_with fail
 go_loopw [8] (fun i wr=>∃ k:Nat,k≤n∧i=.int .i64 k∧Hid (∀ j,j < k → meetsB S (edgeP l j)=false)∧Below w.heap.size w wr) (fun i _=>n - (intOf i).toNat)
 case atStart=>exact ⟨0,Nat.zero_le _,rfl,fun j h=>absurd h (Nat.not_lt_zero _),Below.refl _ _⟩
 case round =>
  obtain ⟨k,hk,rfl,H,hbel⟩:=hrel
  have hbs:=hbel.size
  by_cases hlt:k < n
  · have hkl:k < l.length:=by omega
    have hz:=edge_ok hp hkl
    obtain ⟨v0,v1,v2,v3,v4,v5,v6,v7,v8,v9,v10,v11,hc,hG⟩:=((hE k hkl).below hg hbel).seg (S:=edgeP l k) ⟨⟨ratQ_fit hz.1.1,ratQ_fit hz.1.2⟩,ratQ_fit hz.2.1,ratQ_fit hz.2.2⟩
    obtain ⟨eb,eA,en,ec,eD,em,ek,eyb,eyA,eyn,eyc,eyD,eym,eyk,rfl,rfl,rfl,rfl,rfl,rfl⟩:=hG.fst.cut
    obtain ⟨fb,fA,fn,fc,fD,fm,fk,fyb,fyA,fyn,fyc,fyD,fym,fyk,rfl,rfl,rfl,rfl,rfl,rfl⟩:=hG.snd.cut
    have HV:=hide (impl_meets wr wr.heap.size (Nat.le_refl _) ((hs.below (hbel.mono hB)).wider (by omega)) hG zs hz)
    have y0:=hc 0 _ rfl
    have y1:=hc 1 _ rfl
    have y2:=hc 2 _ rfl
    have y3:=hc 3 _ rfl
    have y4:=hc 4 _ rfl
    have y5:=hc 5 _ rfl
    have y6:=hc 6 _ rfl
    have y7:=hc 7 _ rfl
    have y8:=hc 8 _ rfl
    have y9:=hc 9 _ rfl
    have y10:=hc 10 _ rfl
    have y11:=hc 11 _ rfl
    simp only [Nat.add_zero] at y0
    have HN1:Hid (meetsB S (edgeP l k)=false → ∀ j,j < k+1 → meetsB S (edgeP l j)=false):=fun h0 j hj=>by
     by_cases e:j=k
     · subst e;exact h0
     · exact H.out j (by omega)
    have HY:Hid (meetsB S (edgeP l k)=true → anyE S l=true):=fun h=>anyE_iff.2 ⟨k,hkl,h⟩
    obtain ⟨b,hb⟩:∃ b,b=meetsB S (edgeP l k):=⟨_,rfl⟩
    rw [←hb] at HV HN1 HY
    have e0:(({ block:=g,off:=0,spot:=none }:Addr).add (k * 12))=⟨g,k * 12,none⟩:=by unfold Addr.add;split <;> simp_all
    clear H hc hG hz hb
    go_wp2_with fail
    refine HV.out.mono ?_
    rintro e w1 ⟨rfl,hb1⟩
    have hbel2:=hbel.trans (hb1.mono hbs)
    clear HV y0 y1 y2 y3 y4 y5 y6 y7 y8 y9 y10 y11
    cases b with
    | true =>
      have hY:=hide (HY.out rfl)
      clear HY HN1
      go_wp2_with fail
      go_ret
      exact ⟨k,rfl,⟨by omega,by omega⟩,⟨fun _=>hY.out,fun _=>by omega⟩,hbel2⟩
    | false =>
      have hN:=hide (HN1.out rfl)
      clear HY HN1
      go_wp2_with fail
      go_roundw
      case rel=>exact ⟨k+1,by omega,by go_num,hN.out,hbel2⟩
      case measure=>simp [intOf];omega
  · obtain rfl:k=n:=by omega
    have HF:Hid (anyE S l=false):=by
     show _=_
     cases h:anyE S l with
     | false=>rfl
     | true =>
       obtain ⟨i,hi,hm⟩:=anyE_iff.1 h
       rw [H.out i (by omega)] at hm;cases hm
    clear H hE
    go_wp2_with fail
    go_ret
    exact ⟨-1,rfl,⟨by omega,by omega⟩,⟨fun h=>by omega,fun h=>by rw [HF.out] at h;cases h⟩,hbel⟩
set_option maxHeartbeats 1600000 in
theorem impl_anyMeets (w:World) (B:Nat) (hB:B≤w.heap.size) {p0 p1 p2 p3 p4 p5 p6 p7 p8 p9 p10 p11:Value} {S:PQ × PQ} (hs:GIn w B p0 p1 p2 p3 p4 p5 p6 p7 p8 p9 p10 p11 S) (zs:validG S) (g n:Nat) (l:List V2) (hp:polyP l) (hn:l.length=n) (hE:EdgesAt w g l) (hg:g < w.heap.size) :
 Calls Tryz.prog 43 #[.slice (some ⟨g,0,none⟩) n n,.func (.func 44) #[.agg #[p0,p1,p2,p3,p4,p5,p6,p7,p8,p9,p10,p11]] #[]] w fun e w'=>e=.returned (.bool (anyE S l))∧Below w.heap.size w w':=by
 have HI:=hide (impl_indexMeets w B hB hs zs g n l hp hn hE hg)
 clear hs hE
 go_enter Tryz.func43,Tryz.ntmps43
 go_wp2_with fail
 refine HI.out.mono ?_
 rintro e w1 ⟨r,rfl,hr,hi,hb⟩
 have HE:Hid (decide (0≤r)=anyE S l):=by
  show _=_
  by_cases h:0≤r
  · rw [decide_eq_true h,hi.1 h]
  · rw [decide_eq_false h]
    cases ha:anyE S l with
    | false=>rfl
    | true=>exact absurd (hi.2 ha) h
 clear hi
 go_wp2_with fail
 go_ret
 exact ⟨by rw [←HE.out];rfl,hb⟩
end Go.Proofs.YtafhhemojdblpaaGreat
