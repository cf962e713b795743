/-
  The texts SegX6, SegX7, put together; each has its own heading below. No condition of ours.
-/
import Derived.Test.YtafhhemojdblpaaGreatDY
import Derived.Test.YtafhhemojdblpaaGreatSegL
import Derived.Test.YtafhhemojdblpaaGreatPD
/-
  What the program's distances say of the plane.
-/
namespace Go.Proofs.YtafhhemojdblpaaGreat
open Go.RowKit
set_option linter.unusedVariables false
/-- the square of the distance from a segment, for small points -/
theorem sq_V {P A B:PQ} {px py ax ay bx b_y:Rat} {X Y U V I J K W S:Nat} (p1:IsV P.1 px X) (p2:IsV P.2 py X) (a1:IsV A.1 ax Y) (a2:IsV A.2 ay Y) (b1:IsV B.1 bx Y) (b2:IsV B.2 b_y Y)
 (hU:U=2 * (X * Y)) (hV:V=2 * (Y * Y)) (hI:I=2 * (U * V * (U * V))) (hJ:J=2 * (V * V * (V * V))) (hK:K=I * J+1) (hW:W=2 * (Y * (K * V))) (hS:S=2 * (W * X))
 (m1:U < 1000000000 ^ 24) (m2:V < 1000000000 ^ 24) (m3:2 * (U * V) < 1000000000 ^ 24) (m4:I < 1000000000 ^ 24) (m5:2 * (V * V) < 1000000000 ^ 24) (m6:J < 1000000000 ^ 24) (m7:2 * (I * J) < 1000000000 ^ 24) (m8:2 * (K * V) < 1000000000 ^ 24) (m9:W < 1000000000 ^ 24) (m10:S < 1000000000 ^ 24) (m11:2 * (S * S) < 1000000000 ^ 24) (m12:2 * (S * S * (S * S)) < 1000000000 ^ 24)
 (n1:2 * (Y * X) < 1000000000 ^ 24) (n2:2 * (2 * (Y * X) * (2 * (Y * X))) < 1000000000 ^ 24) (n3:2 * (2 * (Y * X) * (2 * (Y * X)) * (2 * (Y * X) * (2 * (Y * X)))) < 1000000000 ^ 24) :
 ratQ (sqP P A B)=true∧rv (sqP P A B)=sqQ (px,py) (ax,ay) (bx,b_y):=by
 have hsame:sameP A B=true ↔ ((ax,ay):RP)=(bx,b_y):=by
  rw [sameP_iff]
  constructor
  · rintro rfl
    rw [←a1.rv,←a2.rv,←b1.rv,←b2.rv]
  · intro h
    have h1:ax=bx:=congrArg Prod.fst h
    have h2:ay=b_y:=congrArg Prod.snd h
    exact Prod.ext (rv_inj a1.ok b1.ok (by rw [a1.rv,b1.rv,h1])) (rv_inj a2.ok b2.ok (by rw [a2.rv,b2.rv,h2]))
 by_cases hs:sameP A B=true
 · have e1:sqP P A B=distP P A:=by unfold sqP;rw [if_pos hs]
   have e2:sqQ (px,py) (ax,ay) (bx,b_y)=dq (px,py) (ax,ay):=by unfold sqQ;rw [if_pos (hsame.1 hs)]
   have d1:=a1.sub p1 n1
   have d2:=a2.sub p2 n1
   have d:=((d1.mul d1 n2).add (d2.mul d2 n2) n3)
   rw [e1,e2]
   refine ⟨d.ok,?_⟩
   rw [show distP P A=addQ (mulQ (subQ A.1 P.1) (subQ A.1 P.1)) (mulQ (subQ A.2 P.2) (subQ A.2 P.2)) from rfl,d.rv]
   simp only [dq]
 · have hne:¬ ((ax,ay):RP)=(bx,b_y):=fun h=>hs (hsame.2 h)
   have e1:sqP P A B=distP P (nearP P A B):=by unfold sqP;rw [if_neg hs]
   have e2:sqQ (px,py) (ax,ay) (bx,b_y)=dq (px,py) (nearQ (px,py) (ax,ay) (bx,b_y)):=by unfold sqQ;rw [if_neg hne]
   have u1:=p1.sub a1 (by rw [←hU];exact m1)
   have u2:=p2.sub a2 (by rw [←hU];exact m1)
   have v1:=b1.sub a1 (by rw [←hV];exact m2)
   have v2:=b2.sub a2 (by rw [←hV];exact m2)
   rw [←hU] at u1 u2
   rw [←hV] at v1 v2
   have i:=(u1.mul v1 m3).add (u2.mul v2 m3) (by rw [←hI];exact m4)
   rw [←hI] at i
   have j:=(v1.mul v1 m5).add (v2.mul v2 m5) (by rw [←hJ];exact m6)
   rw [←hJ] at j
   have hL:(bx - ax) * (bx - ax)+(b_y - ay) * (b_y - ay) ≠ 0:=by
    have:=dq_pos (p:=((ax,ay):RP)) (q:=(bx,b_y)) hne
    unfold dq at this
    simp only at this
    grind
   have t:=i.div j hL m7
   have z0:IsV (intQ 0) ((0:Int):Rat) 1:=(intQ_V 0 (by decide)).mono (by decide)
   have z1:IsV (intQ 1) ((1:Int):Rat) 1:=(intQ_V 1 (by decide)).mono (by decide)
   have c:IsV (partQ (divQ (innP A P B) (distP A B))) (clampQ (((px - ax) * (bx - ax)+(py - ay) * (b_y - ay)) / ((bx - ax) * (bx - ax)+(b_y - ay) * (b_y - ay)))) K:=by
    have h:=z0.max (t.min z1)
    have h2:=h.mono (C:=K) (by rw [hK];generalize I * J=q;simp only [Nat.max_def];split <;> split <;> omega)
    have e:(if (if (((px - ax) * (bx - ax)+(py - ay) * (b_y - ay)) / ((bx - ax) * (bx - ax)+(b_y - ay) * (b_y - ay)))≤((1:Int):Rat) then (((px - ax) * (bx - ax)+(py - ay) * (b_y - ay)) / ((bx - ax) * (bx - ax)+(b_y - ay) * (b_y - ay))) else ((1:Int):Rat))≤((0:Int):Rat) then ((0:Int):Rat) else (if (((px - ax) * (bx - ax)+(py - ay) * (b_y - ay)) / ((bx - ax) * (bx - ax)+(b_y - ay) * (b_y - ay)))≤((1:Int):Rat) then (((px - ax) * (bx - ax)+(py - ay) * (b_y - ay)) / ((bx - ax) * (bx - ax)+(b_y - ay) * (b_y - ay))) else ((1:Int):Rat)))=clampQ (((px - ax) * (bx - ax)+(py - ay) * (b_y - ay)) / ((bx - ax) * (bx - ax)+(b_y - ay) * (b_y - ay))):=by
     generalize (((px - ax) * (bx - ax)+(py - ay) * (b_y - ay)) / ((bx - ax) * (bx - ax)+(b_y - ay) * (b_y - ay)))=q
     unfold clampQ
     grind
    rw [e] at h2
    exact h2
   have eq1:innQ (ax,ay) (px,py) (bx,b_y) / dq (ax,ay) (bx,b_y)=((px - ax) * (bx - ax)+(py - ay) * (b_y - ay)) / ((bx - ax) * (bx - ax)+(b_y - ay) * (b_y - ay)):=by
    simp only [innQ,dq]
   generalize (((px - ax) * (bx - ax)+(py - ay) * (b_y - ay)) / ((bx - ax) * (bx - ax)+(b_y - ay) * (b_y - ay)))=q at *
   have w1:=a1.add (c.mul v1 m8) (by rw [←hW];exact m9)
   have w2:=a2.add (c.mul v2 m8) (by rw [←hW];exact m9)
   rw [←hW] at w1 w2
   have s1:=w1.sub p1 (by rw [←hS];exact m10)
   have s2:=w2.sub p2 (by rw [←hS];exact m10)
   rw [←hS] at s1 s2
   have d:=(s1.mul s1 m11).add (s2.mul s2 m11) m12
   rw [e1,e2]
   refine ⟨d.ok,?_⟩
   refine d.rv.trans ?_
   simp only [nearQ]
   rw [eq1]
   simp only [dq,atQ]
theorem least_V {D:Nat → RQ} {S:Nat → Rat}:∀ k,(∀ i,i≤k → ratQ (D i)=true∧rv (D i)=S i) → ratQ (leastV D k)=true∧LeastQ (k+1) S (rv (leastV D k))
 | 0,h=>by
   have:=h 0 (Nat.le_refl _)
   refine ⟨this.1,fun i hi=>?_,0,by omega,this.2⟩
   obtain rfl:i=0:=by omega
   rw [←this.2];exact Rat.le_refl
 | k+1,h=>by
   obtain ⟨a,b,j,hj,e⟩:=least_V k (fun i hi=>h i (by omega))
   have c:=h (k+1) (Nat.le_refl _)
   show ratQ (minQ (leastV D k) (D (k+1)))=true∧LeastQ (k+2) S (rv (minQ (leastV D k) (D (k+1))))
   rw [minQ_val a c.1]
   split
   · rename_i hle
     refine ⟨a,fun i hi=>?_,j,by omega,e⟩
     by_cases hk:i=k+1
     · rw [hk,←c.2];exact hle
     · exact b i (by omega)
   · rename_i hle
     refine ⟨c.1,fun i hi=>?_,k+1,by omega,c.2⟩
     by_cases hk:i=k+1
     · rw [hk,←c.2];exact Rat.le_refl
     · have:=b i (by omega);grind
/-- a corner, as a point -/
theorem corner_V {v:V2} (h:smallV v):IsV (vecP v.1 v.2).1 (v.1:Rat) 5∧IsV (vecP v.1 v.2).2 (v.2:Rat) 5:=by
 obtain ⟨h1,h2⟩:=h
 exact ⟨(intQ_V v.1 (by omega)).mono (by omega),(intQ_V v.2 (by omega)).mono (by omega)⟩
theorem sq_edge {P:PQ} {px py:Rat} (p1:IsV P.1 px 6724) (p2:IsV P.2 py 6724) {u v:V2} (hu:smallV u) (hv:smallV v) :
 ratQ (sqP P (vecP u.1 u.2) (vecP v.1 v.2))=true∧rv (sqP P (vecP u.1 u.2) (vecP v.1 v.2))=sqQ (px,py) ((u.1:Rat),(u.2:Rat)) ((v.1:Rat),(v.2:Rat)) :=
 sq_V p1 p2 (corner_V hu).1 (corner_V hu).2 (corner_V hv).1 (corner_V hv).2 rfl rfl rfl rfl rfl rfl rfl (by decide +kernel) (by decide +kernel) (by decide +kernel) (by decide +kernel) (by decide +kernel) (by decide +kernel) (by decide +kernel) (by decide +kernel) (by decide +kernel) (by decide +kernel) (by decide +kernel) (by decide +kernel) (by decide +kernel) (by decide +kernel) (by decide +kernel)
theorem sq_drawn {P A B:PQ} {px py ax ay bx b_y:Rat} (p1:IsV P.1 px 41) (p2:IsV P.2 py 41) (a1:IsV A.1 ax 41) (a2:IsV A.2 ay 41) (b1:IsV B.1 bx 41) (b2:IsV B.2 b_y 41) :
 ratQ (sqP P A B)=true∧rv (sqP P A B)=sqQ (px,py) (ax,ay) (bx,b_y) :=
 sq_V p1 p2 a1 a2 b1 b2 rfl rfl rfl rfl rfl rfl rfl (by decide +kernel) (by decide +kernel) (by decide +kernel) (by decide +kernel) (by decide +kernel) (by decide +kernel) (by decide +kernel) (by decide +kernel) (by decide +kernel) (by decide +kernel) (by decide +kernel) (by decide +kernel) (by decide +kernel) (by decide +kernel) (by decide +kernel)
theorem toP_V {l:List V2} (hl:polyP l) (hs:∀ v ∈ l,smallV v) {P:PQ} (hP:okP P) (p1:IsV P.1 (rv P.1) 6724) (p2:IsV P.2 (rv P.2) 6724) :
 ratQ (toP l P (scP P))=true∧PolD l.length (fl_ l) (rp P) (rv (toP l P (scP P))):=by
 have hc:=cont_iff hl hP
 have h3:=hl.1
 have hat:∀ i,i < l.length → smallV (atV l i):=fun i hi=>hs _ (at_mem hi)
 unfold toP
 by_cases h:0≤contS l (scP P)
 · rw [if_pos h]
   exact ⟨intQ_01.1.1,.inl ⟨hc.1 h,intQ_01.1.2⟩⟩
 · rw [if_neg h]
   obtain ⟨a,b⟩:=least_V (D:=fun i=>sqP P (edgeP l i).1 (edgeP l i).2) (S:=fun i=>sqQ (rp P) (fl_ l i) (fl_ l (nxQ l.length i))) (l.length - 1) (fun i hi=>sq_edge p1 p2 (hat i (by omega)) (hat _ (Nat.mod_lt _ (by omega))))
   rw [show l.length - 1+1=l.length by omega] at b
   exact ⟨a,.inr ⟨fun k=>h (hc.2 k),b⟩⟩
theorem sqB_V {l:List V2} (hl:polyP l) (hs:∀ v ∈ l,smallV v) {P Q:PQ} (hP:okP P) (hQ:okP Q) (p1:IsV P.1 (rv P.1) 41) (p2:IsV P.2 (rv P.2) 41) (q1:IsV Q.1 (rv Q.1) 41) (q2:IsV Q.2 (rv Q.2) 41) :
 ratQ (sqB l P Q (scP P) (scP Q))=true∧SegD l.length (fl_ l) (rp P) (rp Q) (rv (sqB l P Q (scP P) (scP Q))):=by
 have hc:=segM_iff hl hP hQ
 have h3:=hl.1
 have hat:∀ i,i < l.length → smallV (atV l i):=fun i hi=>hs _ (at_mem hi)
 unfold sqB
 by_cases h:segM l P Q (scP P)=true
 · rw [if_pos h]
   exact ⟨intQ_01.1.1,.inl ⟨hc.1 h,intQ_01.1.2⟩⟩
 · rw [if_neg h]
   have x:=toP_V hl hs hP (p1.mono (by omega)) (p2.mono (by omega))
   have y:=toP_V hl hs hQ (q1.mono (by omega)) (q2.mono (by omega))
   obtain ⟨c,d⟩:=least_V (D:=fun i=>sqP (vecP (atV l i).1 (atV l i).2) P Q) (S:=fun i=>sqQ (fl_ l i) (rp P) (rp Q)) (l.length - 1) (fun i hi=>sq_drawn ((corner_V (hat i (by omega))).1.mono (by omega)) ((corner_V (hat i (by omega))).2.mono (by omega)) p1 p2 q1 q2)
   rw [show l.length - 1+1=l.length by omega] at d
   have e:leastV (twoD (toP l P (scP P)) (toP l Q (scP Q))) 1=minQ (toP l P (scP P)) (toP l Q (scP Q)):=rfl
   rw [e]
   have m:=minQ_val x.1 y.1
   have mv:ratQ (minQ (toP l P (scP P)) (toP l Q (scP Q)))=true:=by rw [m];split;exact x.1;exact y.1
   have f:=minQ_val mv c
   refine ⟨by rw [f];split;exact mv;exact c,.inr ⟨fun k=>h (hc.2 k),_,_,_,x.2,y.2,d,?_⟩⟩
   rw [f,m]
   generalize toP l P (scP P)=X at *
   generalize toP l Q (scP Q)=Y at *
   generalize leastV (fun i=>sqP (vecP (atV l i).1 (atV l i).2) P Q) (l.length - 1)=Z at *
   split <;> split <;> grind
end Go.Proofs.YtafhhemojdblpaaGreat
/-
  The law FnDistances: what it asks of the plane, and contracts whose value is known.
-/
namespace Go.Proofs.YtafhhemojdblpaaGreat
open Go.RowKit
set_option linter.unusedVariables false
theorem ok_true (w:World) (B:Nat) (hB:B≤w.heap.size) {v0 v1 v2:Value} {Z:RQ} (h:QIn w B v0 v1 v2 Z) (hz:ratQ Z=true) :
 Calls Tryz.prog 10 #[.agg #[v0,v1,v2]] w fun e w'=>e=.returned (.bool true)∧Below w.heap.size w w':=by
 obtain ⟨A,n,c,D,m,k,rfl,rfl,rfl,r1,r2,c1,c2⟩:=h
 have hc:=impl_RatOk w B hB Z.1.1 A n c Z.1.2 r1 D m k Z.2 r2
 rw [show ratB Z.1.1 Z.1.2 Z.2=true from hz] at hc
 exact hc
theorem cmp_is (w:World) (B:Nat) (hB:B≤w.heap.size) {v0 v1 v2:Value} {Z:RQ} (h:QIn w B v0 v1 v2 Z) {u0 u1 u2:Value} {Y:RQ} (h':QIn w B u0 u1 u2 Y) {X:Int} (hX:ratQ Z=true∧ratQ Y=true∧cmpQ Z Y=X) :
 Calls Tryz.prog 11 #[.agg #[v0,v1,v2],.agg #[u0,u1,u2]] w fun e w'=>e=.returned (.int .i64 X)∧Below w.heap.size w w':=by
 obtain ⟨hz,hy,rfl⟩:=hX
 obtain ⟨A,n,c,D,m,k,rfl,rfl,rfl,r1,r2,c1,c2⟩:=h
 obtain ⟨A',n',c',D',m',k',rfl,rfl,rfl,r1',r2',c1',c2'⟩:=h'
 have hc:=impl_RatCmp w B hB Z.1.1 A n c Z.1.2 r1 D m k Z.2 r2 Y.1.1 A' n' c' Y.1.2 r1' D' m' k' Y.2 r2'
 rw [show cmpR Z.1.1 Z.1.2 Z.2 Y.1.1 Y.1.2 Y.2=cmpQ Z Y by unfold cmpR;rw [if_pos (by rw [show ratB Z.1.1 Z.1.2 Z.2=true from hz,show ratB Y.1.1 Y.1.2 Y.2=true from hy];rfl)];rfl] at hc
 exact hc
theorem same_true (w:World) (B:Nat) (hB:B≤w.heap.size) {v0 v1 v2:Value} {Z:RQ} (h:QIn w B v0 v1 v2 Z) {u0 u1 u2:Value} (h':QIn w B u0 u1 u2 Z) :
 Calls Tryz.prog 18 #[.agg #[v0,v1,v2],.agg #[u0,u1,u2]] w fun e w'=>e=.returned (.bool true)∧Below w.heap.size w w':=by
 have hc:=impl_sameQ w B hB h h'
 rw [show sameQ Z Z=true by unfold sameQ sameR;simp] at hc
 exact hc
theorem sign_range (Z:RQ):-1≤signQ Z∧signQ Z≤1:=by
 unfold signQ signR cmpV
 split
 · split
   · omega
   · split <;> omega
 · omega
theorem sign_nn {Z:RQ} (h:ratQ Z=true) (h0:0≤rv Z):(rv Z=0 → signQ Z=0)∧(¬ rv Z=0 → signQ Z=1):=by
 have s:=signQ_rv h
 have r:=sign_range Z
 refine ⟨s.2.1.2,fun k=>?_⟩
 have:=s.2.2.2 (show 0 < rv Z by grind)
 omega
theorem DrawP.V {P:PQ} (h:DrawP P):IsV P.1 (rv P.1) 41∧IsV P.2 (rv P.2) 41:=by
 obtain ⟨x,d,y,h1,h2,_⟩:=h
 refine ⟨?_,?_⟩
 · rw [h1.rv];exact h1
 · rw [h2.rv];exact h2.mono (by omega)
theorem dists_all {P Q:PQ} {l:List V2} (hp:DrawP P) (hq:DrawP Q) (hl:polyP l) (hs:∀ v ∈ l,smallV v) {v:V2} (hv:smallV v) :
 ∃ (M:PQ) (d e g s ds:RQ) (y:Bool) (k sd se c1 c2 c3:Int),
   (midP P Q=M∧sqB l P Q (scP P) (scP Q)=d∧toP l M (scP M)=e∧toP l P (scP P)=g∧sqP P Q (vecP v.1 v.2)=s∧distP P Q=ds∧innP P Q Q=ds) ∧
   (segM l P Q (scP P)=y∧contS l (scP M)=k∧signQ d=sd∧signQ e=se∧cmpQ d e=c1∧cmpQ d g=c2∧cmpQ s ds=c3) ∧
   (c1≤0∧c2≤0∧c3≤0)∧((y=true → sd=0)∧(y=false → sd=1))∧((0≤k → se=0)∧(k < 0 → se=1)) ∧
   (ratQ d=true∧ratQ e=true∧ratQ g=true∧ratQ s=true∧ratQ ds=true)∧PFit M∧okP M∧SmallP M (scP M):=by
 obtain ⟨mo,mr,ms,m1,m2⟩:=draw_mid hp hq
 obtain ⟨p1,p2⟩:=hp.V
 obtain ⟨q1,q2⟩:=hq.V
 have hc:=poly_conv hl
 have D:=sqB_V hl hs hp.ok hq.ok p1 p2 q1 q2
 have E:=toP_V hl hs mo m1 (m2.mono (by omega))
 have G:=toP_V hl hs hp.ok (p1.mono (by omega)) (p2.mono (by omega))
 have S:=sq_drawn p1 p2 q1 q2 ((corner_V hv).1.mono (show 5≤41 by omega)) ((corner_V hv).2.mono (show 5≤41 by omega))
 have b1:2 * (41 * 41) < 1000000000 ^ 24:=by decide +kernel
 have b2:2 * (2 * (41 * 41) * (2 * (41 * 41))) < 1000000000 ^ 24:=by decide +kernel
 have b3:2 * (2 * (41 * 41) * (2 * (41 * 41)) * (2 * (41 * 41) * (2 * (41 * 41)))) < 1000000000 ^ 24:=by decide +kernel
 have t1:=q1.sub p1 b1
 have t2:=q2.sub p2 b1
 have DS:=(t1.mul t1 b2).add (t2.mul t2 b2) b3
 have ed:ratQ (distP P Q)=true∧rv (distP P Q)=dq (rp P) (rp Q):=⟨DS.ok,DS.rv⟩
 have zd:=segD_zero hc D.2
 have ze:=polD_zero hc E.2
 have hsg:=segM_iff hl hp.ok hq.ok
 have hct:=cont_iff hl mo
 have nd:=sign_nn D.1 zd.1
 have ne:=sign_nn E.1 ze.1
 refine ⟨midP P Q,sqB l P Q (scP P) (scP Q),toP l (midP P Q) (scP (midP P Q)),toP l P (scP P),sqP P Q (vecP v.1 v.2),distP P Q,segM l P Q (scP P),contS l (scP (midP P Q)),_,_,_,_,_,⟨rfl,rfl,rfl,rfl,rfl,rfl,rfl⟩,⟨rfl,rfl,rfl,rfl,rfl,rfl,rfl⟩,⟨?_,?_,?_⟩,⟨?_,?_⟩,⟨?_,?_⟩,⟨D.1,E.1,G.1,S.1,ed.1⟩,⟨m1.fit,m2.fit⟩,mo,ms⟩
 · rw [cmpQ_le D.1 E.1]
   refine segD_mid hc ?_ D.2 E.2
   rw [mr];exact mid_onQ _ _
 · rw [cmpQ_le D.1 G.1]
   exact segD_end hc D.2 G.2
 · rw [cmpQ_le S.1 ed.1,S.2,ed.2]
   exact sq_flip_le _
 · intro h
   exact nd.1 (zd.2.2 (hsg.1 h))
 · intro h
   refine nd.2 fun k=>?_
   rw [hsg.2 (zd.2.1 k)] at h;cases h
 · intro h
   exact ne.1 (ze.2.2 (hct.1 h))
 · intro h
   refine ne.2 fun k=>?_
   have:=hct.2 (ze.2.1 k);omega
end Go.Proofs.YtafhhemojdblpaaGreat
