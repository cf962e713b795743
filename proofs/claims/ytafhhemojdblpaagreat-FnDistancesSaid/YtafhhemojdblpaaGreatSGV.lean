/-
  The texts SegG, SegV, SegE, put together; each has its own heading below. No condition of ours.
-/
import Derived.IntWalk
import Derived.Test.YtafhhemojdblpaaGreatSV
import Derived.Test.YtafhhemojdblpaaGreatSegP
/-
  The plane over fractions: segments, convex polygons, where a segment leaves one; squares of distances.
-/
namespace Go.Proofs.YtafhhemojdblpaaGreat
set_option linter.unusedVariables false
abbrev RP:=Rat × Rat
def crsQ (a b c:RP):Rat:=(b.1 - a.1) * (c.2 - a.2) - (b.2 - a.2) * (c.1 - a.1)
def rngQ (a b c d:Rat):Prop:=(a≤c ∨ a≤d ∨ b≤c ∨ b≤d)∧(c≤a ∨ c≤b ∨ d≤a ∨ d≤b)
def oppQ (x y:Rat):Prop:=¬ (0 < x∧0 < y)∧¬ (x < 0∧y < 0)
def MeetQ (a b c d:RP):Prop:=rngQ a.1 b.1 c.1 d.1∧rngQ a.2 b.2 c.2 d.2∧oppQ (crsQ a b c) (crsQ a b d)∧oppQ (crsQ c d a) (crsQ c d b)
/-- the point at t of the segment from a to b -/
def atQ (a b:RP) (t:Rat):RP:=(a.1+t * (b.1 - a.1),a.2+t * (b.2 - a.2))
def OnQ (a b x:RP):Prop:=∃ t:Rat,0≤t∧t≤1∧x=atQ a b t
theorem OnQ.mk {a b x:RP} {t:Rat} (h0:0≤t) (h1:t≤1) (hx:x.1=a.1+t * (b.1 - a.1)) (hy:x.2=a.2+t * (b.2 - a.2)):OnQ a b x:=⟨t,h0,h1,Prod.ext hx hy⟩
theorem qmul_nn {a b:Rat} (h:0≤a) (k:0≤b):0≤a * b:=Rat.mul_nonneg h k
theorem qsq (a:Rat):0≤a * a:=by
 rcases (show 0≤a ∨ a≤0 by grind) with h | h
 · exact qmul_nn h h
 · have:=qmul_nn (show 0≤-a by grind) (show 0≤-a by grind);grind
theorem qdiv_nn {a b:Rat} (h:0≤a) (k:0 < b):0≤a / b:=by
 rcases (show 0≤a / b ∨ a / b≤0 by grind) with h2 | h2
 · exact h2
 · have e:a / b * b=a:=by grind
   have:=qmul_nn (show 0≤-(a / b) by grind) (Rat.le_of_lt k)
   have h3:a=0:=by grind
   have h4:a / b=0:=by rw [h3];grind
   rw [h4];exact Rat.le_refl
theorem qdiv_le {a b:Rat} (h:a≤b) (k:0 < b):a / b≤1:=by
 have:=qdiv_nn (show 0≤b - a by grind) k
 have e:(b - a) / b=1 - a / b:=by grind
 grind
/-- a quotient that lies between 0 and 1 -/
theorem fracQ {s d:Rat} (hd:d ≠ 0) (h:(0≤s∧s≤d) ∨ (d≤s∧s≤0)):∃ t:Rat,0≤t∧t≤1∧t * d=s:=by
 refine ⟨s / d,?_,?_,by grind⟩
 · rcases h with h | h
   · exact qdiv_nn h.1 (by grind)
   · have:=qdiv_nn (show 0≤-s by grind) (show 0 < -d by grind)
     have e:-s / -d=s / d:=by grind
     grind
 · rcases h with h | h
   · exact qdiv_le h.2 (by grind)
   · have:=qdiv_le (show -s≤-d by grind) (show 0 < -d by grind)
     have e:-s / -d=s / d:=by grind
     grind
theorem opp_between {s d:Rat} (h:oppQ s (s - d)):(0≤s∧s≤d) ∨ (d≤s∧s≤0):=by unfold oppQ at h;grind
/-- a coordinate in the range of another segment gives a common point where all is on one line -/
theorem par_xQ {p q a:RP} (hu:q.1 - p.1 ≠ 0) (hc:crsQ p q a=0) (hr:(p.1≤a.1∧a.1≤q.1) ∨ (q.1≤a.1∧a.1≤p.1)):OnQ p q a:=by
 obtain ⟨t,h0,h1,ht⟩:=fracQ (s:=a.1 - p.1) hu (by grind)
 refine OnQ.mk h0 h1 (by grind) ?_
 unfold crsQ at hc
 have:(q.1 - p.1) * (a.2 - (p.2+t * (q.2 - p.2)))=0:=by grind
 grind
theorem par_yQ {p q a:RP} (hu:q.2 - p.2 ≠ 0) (hc:crsQ p q a=0) (hr:(p.2≤a.2∧a.2≤q.2) ∨ (q.2≤a.2∧a.2≤p.2)):OnQ p q a:=by
 obtain ⟨t,h0,h1,ht⟩:=fracQ (s:=a.2 - p.2) hu (by grind)
 refine OnQ.mk h0 h1 ?_ (by grind)
 unfold crsQ at hc
 have:(q.2 - p.2) * (a.1 - (p.1+t * (q.1 - p.1)))=0:=by grind
 grind
theorem OnQ.left (a b:RP):OnQ a b a:=OnQ.mk (t:=0) (by grind) (by grind) (by grind) (by grind)
theorem OnQ.right (a b:RP):OnQ a b b:=OnQ.mk (t:=1) (by grind) (by grind) (by grind) (by grind)
theorem OnQ.symm {a b x:RP} (h:OnQ a b x):OnQ b a x:=by
 obtain ⟨t,h0,h1,rfl⟩:=h
 exact OnQ.mk (t:=1 - t) (by grind) (by grind) (by simp only [atQ];grind) (by simp only [atQ];grind)
def ComQ (a b c d:RP):Prop:=∃ x,OnQ a b x∧OnQ c d x
theorem meet_com {p q a b:RP} (h:MeetQ p q a b):ComQ p q a b:=by
 obtain ⟨hx,hy,h1,h2⟩:=h
 obtain ⟨D,hD⟩:∃ D,D=(q.1 - p.1) * (b.2 - a.2) - (q.2 - p.2) * (b.1 - a.1):=⟨_,rfl⟩
 have e1:crsQ p q b=crsQ p q a+D:=by unfold crsQ;grind
 have e2:crsQ a b q=crsQ a b p - D:=by unfold crsQ;grind
 by_cases h0:D=0
 · have z1:crsQ p q a=0:=by unfold oppQ at h1;grind
   have z2:crsQ a b p=0:=by unfold oppQ at h2;grind
   have z3:crsQ p q b=0:=by grind
   have z4:crsQ a b q=0:=by grind
   by_cases ux:q.1 - p.1=0
   · by_cases uy:q.2 - p.2=0
     · by_cases vx:b.1 - a.1=0
       · by_cases vy:b.2 - a.2=0
         · exact ⟨p,OnQ.left _ _,OnQ.mk (t:=0) (by grind) (by grind) (by unfold rngQ at hx;grind) (by unfold rngQ at hy;grind)⟩
         · exact ⟨p,OnQ.left _ _,par_yQ vy z2 (by unfold rngQ at hy;grind)⟩
       · exact ⟨p,OnQ.left _ _,par_xQ vx z2 (by unfold rngQ at hx;grind)⟩
     · by_cases r1:(p.2≤a.2∧a.2≤q.2) ∨ (q.2≤a.2∧a.2≤p.2)
       · exact ⟨a,par_yQ uy z1 r1,OnQ.left _ _⟩
       · by_cases r2:(p.2≤b.2∧b.2≤q.2) ∨ (q.2≤b.2∧b.2≤p.2)
         · exact ⟨b,par_yQ uy z3 r2,OnQ.right _ _⟩
         · exact ⟨p,OnQ.left _ _,par_yQ (by unfold rngQ at hy;grind) z2 (by unfold rngQ at hy;grind)⟩
   · by_cases r1:(p.1≤a.1∧a.1≤q.1) ∨ (q.1≤a.1∧a.1≤p.1)
     · exact ⟨a,par_xQ ux z1 r1,OnQ.left _ _⟩
     · by_cases r2:(p.1≤b.1∧b.1≤q.1) ∨ (q.1≤b.1∧b.1≤p.1)
       · exact ⟨b,par_xQ ux z3 r2,OnQ.right _ _⟩
       · exact ⟨p,OnQ.left _ _,par_xQ (by unfold rngQ at hx;grind) z2 (by unfold rngQ at hx;grind)⟩
 · obtain ⟨s,s0,s1,hs⟩:=fracQ h0 (opp_between (s:=crsQ a b p) (by rw [←e2];exact h2))
   obtain ⟨t,t0,t1,ht⟩:=fracQ h0 (opp_between (s:=-crsQ p q a) (by unfold oppQ at h1 ⊢;grind))
   refine ⟨atQ p q s,⟨s,s0,s1,rfl⟩,⟨t,t0,t1,?_⟩⟩
   unfold crsQ at hs ht
   refine Prod.ext ?_ ?_
   · show p.1+s * (q.1 - p.1)=a.1+t * (b.1 - a.1)
     have:D * (p.1+s * (q.1 - p.1))=D * (a.1+t * (b.1 - a.1)):=by grind
     grind
   · show p.2+s * (q.2 - p.2)=a.2+t * (b.2 - a.2)
     have:D * (p.2+s * (q.2 - p.2))=D * (a.2+t * (b.2 - a.2)):=by grind
     grind
theorem com_meet {p q a b:RP} (h:ComQ p q a b):MeetQ p q a b:=by
 obtain ⟨x,⟨s,s0,s1,rfl⟩,⟨t,t0,t1,hx⟩⟩:=h
 have e1:=congrArg Prod.fst hx
 have e2:=congrArg Prod.snd hx
 simp only [atQ] at e1 e2
 have keyQ:∀ u v:Rat,∀ r:Rat,0≤r → r≤1 → (u≤u+r * (v - u) ∨ v≤u+r * (v - u))∧(u+r * (v - u)≤u ∨ u+r * (v - u)≤v):=by
  intro u v r h0 h1
  rcases (show u≤v ∨ v≤u by grind) with h | h
  · have m1:=qmul_nn h0 (show 0≤v - u by grind)
    have m2:=qmul_nn (show 0≤1 - r by grind) (show 0≤v - u by grind)
    exact ⟨.inl (by grind),.inr (by grind)⟩
  · have m1:=qmul_nn h0 (show 0≤u - v by grind)
    have m2:=qmul_nn (show 0≤1 - r by grind) (show 0≤u - v by grind)
    exact ⟨.inr (by grind),.inl (by grind)⟩
 have k1:=keyQ p.1 q.1 s s0 s1
 have k2:=keyQ a.1 b.1 t t0 t1
 have k3:=keyQ p.2 q.2 s s0 s1
 have k4:=keyQ a.2 b.2 t t0 t1
 rw [e1] at k1
 rw [e2] at k3
 obtain ⟨D,hD⟩:∃ D,D=(q.1 - p.1) * (b.2 - a.2) - (q.2 - p.2) * (b.1 - a.1):=⟨_,rfl⟩
 have f1:crsQ p q b=crsQ p q a+D:=by unfold crsQ;grind
 have f2:crsQ a b q=crsQ a b p - D:=by unfold crsQ;grind
 have g1:crsQ p q a = -(t * D):=by unfold crsQ;grind
 have g2:crsQ a b p=s * D:=by unfold crsQ;grind
 refine ⟨by unfold rngQ;grind,by unfold rngQ;grind,?_,?_⟩
 · rw [f1,g1]
   unfold oppQ
   rcases (show 0≤D ∨ D≤0 by grind) with h | h
   · have m1:=qmul_nn t0 h
     have m2:=qmul_nn (show 0≤1 - t by grind) h
     grind
   · have m1:=qmul_nn t0 (show 0≤-D by grind)
     have m2:=qmul_nn (show 0≤1 - t by grind) (show 0≤-D by grind)
     grind
 · rw [f2,g2]
   unfold oppQ
   rcases (show 0≤D ∨ D≤0 by grind) with h | h
   · have m1:=qmul_nn s0 h
     have m2:=qmul_nn (show 0≤1 - s by grind) h
     grind
   · have m1:=qmul_nn s0 (show 0≤-D by grind)
     have m2:=qmul_nn (show 0≤1 - s by grind) (show 0≤-D by grind)
     grind
/-- the point in the middle -/
def midQ (p q:RP):RP:=((p.1+q.1) / 2,(p.2+q.2) / 2)
theorem OnQ.sub {p q x y z:RP} (hx:OnQ p q x) (hy:OnQ p q y) (hz:OnQ x y z):OnQ p q z:=by
 obtain ⟨s,s0,s1,rfl⟩:=hx
 obtain ⟨t,t0,t1,rfl⟩:=hy
 obtain ⟨r,r0,r1,rfl⟩:=hz
 have m1:=qmul_nn r0 t0
 have m2:=qmul_nn (show 0≤1 - r by grind) s0
 have m3:=qmul_nn r0 (show 0≤1 - t by grind)
 have m4:=qmul_nn (show 0≤1 - r by grind) (show 0≤1 - s by grind)
 exact OnQ.mk (t:=s+r * (t - s)) (by grind) (by grind) (by simp only [atQ];grind) (by simp only [atQ];grind)
theorem mid_onQ (p q:RP):OnQ p q (midQ p q):=OnQ.mk (t:=1 / 2) (by grind) (by grind) (by simp only [midQ];grind) (by simp only [midQ];grind)
/-! ### convex polygons: n corners f 0 .. f (n - 1), counterclockwise -/
def nxQ (n i:Nat):Nat:=(i+1) % n
def ConvQ (n:Nat) (f:Nat → RP):Prop:=3≤n∧∀ i j,i < n → j < n → j ≠ i → j ≠ nxQ n i → 0 < crsQ (f i) (f (nxQ n i)) (f j)
def InsQ (n:Nat) (f:Nat → RP) (x:RP):Prop:=∀ i,i < n → 0≤crsQ (f i) (f (nxQ n i)) x
theorem crsQ_at (a b p q:RP) (t:Rat):crsQ a b (atQ p q t)=(1 - t) * crsQ a b p+t * crsQ a b q:=by simp only [crsQ,atQ];grind
theorem crsQ_l (a b:RP):crsQ a b a=0:=by unfold crsQ;grind
theorem crsQ_r (a b:RP):crsQ a b b=0:=by unfold crsQ;grind
theorem nxQ_lt {n i:Nat} (h:i < n):nxQ n i < n:=Nat.mod_lt _ (by omega)
theorem nxQ_of {n i:Nat} (h:i < n):(nxQ n i=i+1∧i+1 < n) ∨ (nxQ n i=0∧i+1=n):=by
 unfold nxQ
 by_cases hh:i+1 < n
 · exact .inl ⟨Nat.mod_eq_of_lt hh,hh⟩
 · have e:i+1=n:=by omega
   exact .inr ⟨by rw [e];exact Nat.mod_self n,e⟩
/-- the corner before -/
theorem preQ_of {n i:Nat} (h:i < n):∃ k,k < n∧nxQ n k=i:=by
 by_cases h0:i=0
 · exact ⟨n - 1,by omega,by unfold nxQ;rw [show n - 1+1=n by omega,Nat.mod_self,h0]⟩
 · exact ⟨i - 1,by omega,by unfold nxQ;rw [show i - 1+1=i by omega,Nat.mod_eq_of_lt h]⟩
theorem ConvQ.edge {n:Nat} {f:Nat → RP} (h:ConvQ n f) {x:RP} (hx:InsQ n f x) {i:Nat} (hi:i < n) (h0:crsQ (f i) (f (nxQ n i)) x=0):OnQ (f i) (f (nxQ n i)) x:=by
 obtain ⟨h3,hc⟩:=h
 obtain ⟨k,hk,hki⟩:=preQ_of hi
 have hj:=nxQ_lt hi
 have hjj:=nxQ_lt hj
 have n1:=nxQ_of hi
 have n2:=nxQ_of hj
 have n3:=nxQ_of hk
 have c1:=hc k (nxQ n i) hk hj (by omega) (by omega)
 have c2:=hc (nxQ n i) i hj hi (by omega) (by omega)
 have i1:=hx k hk
 have i2:=hx (nxQ n i) hj
 rw [hki] at c1 i1
 generalize f i=a at *
 generalize f (nxQ n i)=b at *
 generalize f k=z at *
 generalize f (nxQ n (nxQ n i))=c at *
 clear hc
 have keyQ:∀ τ:Rat,x.1=a.1+τ * (b.1 - a.1) → x.2=a.2+τ * (b.2 - a.2) → OnQ a b x:=by
  intro τ e1 e2
  have ex:x=atQ a b τ:=Prod.ext e1 e2
  rw [ex,crsQ_at,crsQ_r] at i1
  rw [ex,crsQ_at,crsQ_l] at i2
  refine ⟨τ,?_,?_,ex⟩
  · rcases (show 0≤τ ∨ τ < 0 by grind) with h | h
    · exact h
    · have:=Rat.mul_pos (show 0 < -τ by grind) c1;grind
  · rcases (show τ≤1 ∨ 1 < τ by grind) with h | h
    · exact h
    · have:=Rat.mul_pos (show 0 < τ - 1 by grind) c2;grind
 unfold crsQ at h0 c1
 by_cases vx:b.1 - a.1=0
 · have vy:b.2 - a.2 ≠ 0:=by intro vy;grind
   have e:(x.2 - a.2) / (b.2 - a.2) * (b.2 - a.2)=x.2 - a.2:=by grind
   refine keyQ ((x.2 - a.2) / (b.2 - a.2)) ?_ (by grind)
   have:(b.2 - a.2) * (x.1 - a.1)=0:=by grind
   grind
 · have e:(x.1 - a.1) / (b.1 - a.1) * (b.1 - a.1)=x.1 - a.1:=by grind
   refine keyQ ((x.1 - a.1) / (b.1 - a.1)) (by grind) ?_
   generalize (x.1 - a.1) / (b.1 - a.1) = τ at *
   have:(b.1 - a.1) * (x.2 - (a.2+τ * (b.2 - a.2)))=0:=by grind
   grind
theorem ConvQ.on {n:Nat} {f:Nat → RP} (h:ConvQ n f) {i:Nat} (hi:i < n) {x:RP} (hx:OnQ (f i) (f (nxQ n i)) x):InsQ n f x:=by
 obtain ⟨t,t0,t1,rfl⟩:=hx
 intro j hj
 rw [crsQ_at]
 have hc:∀ m,m < n → 0≤crsQ (f j) (f (nxQ n j)) (f m):=by
  intro m hm
  by_cases e1:m=j
  · rw [e1,crsQ_l];exact Rat.le_refl
  · by_cases e2:m=nxQ n j
    · rw [e2,crsQ_r];exact Rat.le_refl
    · exact Rat.le_of_lt (h.2 j m hj hm e1 e2)
 have m1:=qmul_nn (show 0≤1 - t by grind) (hc i hi)
 have m2:=qmul_nn t0 (hc _ (nxQ_lt hi))
 grind
/-- who leaves the polygon meets an edge -/
theorem ConvQ.leave {n:Nat} {f:Nat → RP} (h:ConvQ n f) {p q:RP} (hp:InsQ n f p) (hq:¬ InsQ n f q):∃ i,i < n∧ComQ p q (f i) (f (nxQ n i)):=by
 have keyQ:∀ k,k≤n → ∃ t:Rat,0≤t∧t≤1∧(∀ j,j < k → 0≤crsQ (f j) (f (nxQ n j)) (atQ p q t))∧(t=1 ∨ ∃ j,j < k∧crsQ (f j) (f (nxQ n j)) (atQ p q t)=0):=by
  intro k
  induction k with
  | zero=>intro _;exact ⟨1,by grind,by grind,fun j hj=>by omega,.inl rfl⟩
  | succ k ih =>
    intro hk
    obtain ⟨t,t0,t1,ha,hb⟩:=ih (by omega)
    by_cases hs:0≤crsQ (f k) (f (nxQ n k)) (atQ p q t)
    · refine ⟨t,t0,t1,fun j hj=>?_,?_⟩
      · by_cases e:j=k
        · rw [e];exact hs
        · exact ha j (by omega)
      · rcases hb with hb | ⟨j,hj,e⟩
        · exact .inl hb
        · exact .inr ⟨j,by omega,e⟩
    · have hpk:=hp k (by omega)
      rw [crsQ_at] at hs
      obtain ⟨r,r0,r1,hr⟩:=fracQ (s:=crsQ (f k) (f (nxQ n k)) p) (d:=crsQ (f k) (f (nxQ n k)) p - ((1 - t) * crsQ (f k) (f (nxQ n k)) p+t * crsQ (f k) (f (nxQ n k)) q)) (by grind) (by grind)
      have m0:=qmul_nn r0 t0
      have m1:=qmul_nn r0 (show 0≤1 - t by grind)
      have hz:crsQ (f k) (f (nxQ n k)) (atQ p q (r * t))=0:=by rw [crsQ_at];grind
      refine ⟨r * t,m0,by grind,fun j hj=>?_,.inr ⟨k,by omega,hz⟩⟩
      by_cases e:j=k
      · rw [e,hz];exact Rat.le_refl
      · have a1:=ha j (by omega)
        have a2:=hp j (by omega)
        rw [crsQ_at] at a1 ⊢
        have b1:=qmul_nn r0 a1
        have b2:=qmul_nn (show 0≤1 - r by grind) a2
        grind
 obtain ⟨t,t0,t1,ha,hb⟩:=keyQ n (Nat.le_refl _)
 rcases hb with rfl | ⟨j,hj,e⟩
 · exfalso
   apply hq
   have e:atQ p q 1=q:=Prod.ext (by simp only [atQ];grind) (by simp only [atQ];grind)
   rw [e] at ha
   exact ha
 · exact ⟨j,hj,atQ p q t,⟨t,t0,t1,rfl⟩,h.edge ha hj e⟩
/-- the segment has a point of the polygon, as the program tells it -/
def SegQ (n:Nat) (f:Nat → RP) (p q:RP):Prop:=InsQ n f p ∨ ∃ i,i < n∧MeetQ p q (f i) (f (nxQ n i))
theorem segQ_iff {n:Nat} {f:Nat → RP} (h:ConvQ n f) {p q:RP}:SegQ n f p q ↔ ∃ x,OnQ p q x∧InsQ n f x:=by
 constructor
 · rintro (hp | ⟨i,hi,hm⟩)
   · exact ⟨p,OnQ.left _ _,hp⟩
   · obtain ⟨x,h1,h2⟩:=meet_com hm
     exact ⟨x,h1,h.on hi h2⟩
 · rintro ⟨x,hx,hi⟩
   by_cases hp:InsQ n f p
   · exact .inl hp
   · obtain ⟨i,hin,y,h1,h2⟩:=h.leave hi hp
     exact .inr ⟨i,hin,com_meet ⟨y,hx.sub (OnQ.left _ _) h1,h2⟩⟩
/-! ### distances -/
def innQ (a b c:RP):Rat:=(b.1 - a.1) * (c.1 - a.1)+(b.2 - a.2) * (c.2 - a.2)
def dq (p q:RP):Rat:=(q.1 - p.1) * (q.1 - p.1)+(q.2 - p.2) * (q.2 - p.2)
def clampQ (t:Rat):Rat:=if t≤0 then 0 else if 1≤t then 1 else t
def nearQ (p a b:RP):RP:=atQ a b (clampQ (innQ a p b / dq a b))
def sqQ (p a b:RP):Rat:=if a=b then dq p a else dq p (nearQ p a b)
theorem dq_nn (p q:RP):0≤dq p q:=by
 have:=qsq (q.1 - p.1);have:=qsq (q.2 - p.2);unfold dq;grind
theorem dq_symm (p q:RP):dq p q=dq q p:=by unfold dq;grind
theorem dq_zero {p q:RP} (h:dq p q=0):p=q:=by
 have h1:=qsq (q.1 - p.1);have h2:=qsq (q.2 - p.2);unfold dq at h
 have h3:(q.1 - p.1) * (q.1 - p.1)=0:=by grind
 have h4:(q.2 - p.2) * (q.2 - p.2)=0:=by grind
 exact Prod.ext (by grind) (by grind)
theorem dq_pos {p q:RP} (h:p ≠ q):0 < dq p q:=by
 have h1:=dq_nn p q
 have h2:dq p q ≠ 0:=fun e=>h (dq_zero e)
 grind
theorem clamp_in (t:Rat):0≤clampQ t∧clampQ t≤1:=by unfold clampQ;grind
theorem atQ_self (a:RP) (t:Rat):atQ a a t=a:=Prod.ext (by simp only [atQ];grind) (by simp only [atQ];grind)
theorem sq_on (p a b:RP):∃ y,OnQ a b y∧sqQ p a b=dq p y:=by
 unfold sqQ
 split
 · exact ⟨a,OnQ.left _ _,rfl⟩
 · exact ⟨_,⟨_,(clamp_in _).1,(clamp_in _).2,rfl⟩,rfl⟩
theorem dq_at (p a b:RP) (t:Rat):dq p (atQ a b t)=dq p a - 2 * t * innQ a p b+t * t * dq a b:=by simp only [dq,atQ,innQ];grind
theorem quot_le {a b:Rat} (hb:0 < b) (h:a / b≤0):a≤0:=by
 have e:a / b * b=a:=by grind
 have:=qmul_nn (show 0≤-(a / b) by grind) (Rat.le_of_lt hb);grind
theorem quot_ge {a b:Rat} (hb:0 < b) (h:1≤a / b):b≤a:=by
 have e:a / b * b=a:=by grind
 have:=qmul_nn (show 0≤a / b - 1 by grind) (Rat.le_of_lt hb);grind
theorem sq_min {p a b y:RP} (h:OnQ a b y):sqQ p a b≤dq p y:=by
 obtain ⟨t,t0,t1,rfl⟩:=h
 unfold sqQ
 by_cases hab:a=b
 · rw [if_pos hab,hab,atQ_self];exact Rat.le_refl
 · rw [if_neg hab,nearQ,dq_at,dq_at]
   have hL:=dq_pos hab
   have q0:=@quot_le (innQ a p b) (dq a b) hL
   have q1:=@quot_ge (innQ a p b) (dq a b) hL
   have e:innQ a p b / dq a b * dq a b=innQ a p b:=by grind
   generalize innQ a p b / dq a b=r at *
   generalize dq a b=L at *
   generalize innQ a p b=I at *
   generalize dq p a=A at *
   unfold clampQ
   split
   · have:=q0 (by assumption)
     have m1:=qmul_nn t0 (show 0≤-I by grind)
     have m2:=qmul_nn (qmul_nn t0 t0) (Rat.le_of_lt hL)
     grind
   · split
     · have:=q1 (by assumption)
       have m1:=qmul_nn (show 0≤1 - t by grind) (show 0≤I - L by grind)
       have m2:=qmul_nn (qsq (1 - t)) (Rat.le_of_lt hL)
       grind
     · have m2:=qmul_nn (qsq (t - r)) (Rat.le_of_lt hL)
       subst e
       grind
theorem innQ_at (a b p q:RP) (t:Rat):innQ a (atQ p q t) b=(1 - t) * innQ a p b+t * innQ a q b:=by simp only [innQ,atQ];grind
/-- on the line, between the ends -/
theorem on_lineQ {a b z:RP} (hL:0 < dq a b) (h0:crsQ a b z=0) (t0:0≤innQ a z b) (t1:innQ a z b≤dq a b):OnQ a b z:=by
 obtain ⟨t,u0,u1,ht⟩:=fracQ (s:=innQ a z b) (d:=dq a b) (by grind) (.inl ⟨t0,t1⟩)
 refine OnQ.mk u0 u1 ?_ ?_
 · have:dq a b * (z.1 - (a.1+t * (b.1 - a.1)))=0:=by unfold crsQ at h0;unfold innQ at ht;unfold dq at ht ⊢;grind
   grind
 · have:dq a b * (z.2 - (a.2+t * (b.2 - a.2)))=0:=by unfold crsQ at h0;unfold innQ at ht;unfold dq at ht ⊢;grind
   grind
/-- between two points on different sides, both above the segment, there is one on it -/
theorem cross_comQ {p q a b m z:RP} (hL:0 < dq a b) (hm:OnQ p q m) (hz:OnQ p q z) (m0:0≤innQ a m b) (m1:innQ a m b≤dq a b) (z0:0≤innQ a z b) (z1:innQ a z b≤dq a b)
 (hg:crsQ a b m * crsQ a b z < 0):ComQ p q a b:=by
 obtain ⟨s,s0,s1,hs⟩:=fracQ (s:=crsQ a b m) (d:=crsQ a b m - crsQ a b z)
  (by intro h
      have e:crsQ a b z=crsQ a b m:=by grind
      rw [e] at hg
      have:=qsq (crsQ a b m)
      grind)
  (by
    rcases (show 0≤crsQ a b m ∨ crsQ a b m < 0 by grind) with h | h
    · refine .inl ⟨h,?_⟩
      rcases (show crsQ a b z≤0 ∨ 0 < crsQ a b z by grind) with k | k
      · grind
      · have:=qmul_nn h (Rat.le_of_lt k);grind
    · refine .inr ⟨?_,by grind⟩
      rcases (show 0≤crsQ a b z ∨ crsQ a b z < 0 by grind) with k | k
      · grind
      · have:=Rat.mul_pos (show 0 < -crsQ a b m by grind) (show 0 < -crsQ a b z by grind);grind)
 have a1:=qmul_nn s0 z0
 have a2:=qmul_nn (show 0≤1 - s by grind) m0
 have a3:=qmul_nn s0 (show 0≤dq a b - innQ a z b by grind)
 have a4:=qmul_nn (show 0≤1 - s by grind) (show 0≤dq a b - innQ a m b by grind)
 refine ⟨atQ m z s,hm.sub hz ⟨s,s0,s1,rfl⟩,on_lineQ hL ?_ ?_ ?_⟩
 · rw [crsQ_at];grind
 · rw [innQ_at];grind
 · rw [innQ_at];grind
theorem heightQ (a b z:RP):dq z a * dq a b=innQ a z b * innQ a z b+crsQ a b z * crsQ a b z:=by unfold dq innQ crsQ;grind
theorem qle_of_mul {a b L:Rat} (hL:0 < L) (h:a * L≤b * L):a≤b:=by
 rcases (show a≤b ∨ b < a by grind) with k | k
 · exact k
 · have:=Rat.mul_pos (show 0 < a - b by grind) hL;grind
theorem sq_small {h H:Rat} (h0:0≤H * h) (h1:H * h≤H * H) (hH:H ≠ 0):h * h≤H * H:=by
 rcases (show 0 < H ∨ H < 0 by grind) with k | k
 · have a:0≤h:=by
    rcases (show 0≤h ∨ h < 0 by grind) with x | x
    · exact x
    · have:=Rat.mul_pos k (show 0 < -h by grind);grind
   have b:h≤H:=by
    rcases (show h≤H ∨ H < h by grind) with x | x
    · exact x
    · have:=Rat.mul_pos k (show 0 < h - H by grind);grind
   have c:=qmul_nn (show 0≤H - h by grind) (show 0≤H+h by grind)
   grind
 · have a:h≤0:=by
    rcases (show h≤0 ∨ 0 < h by grind) with x | x
    · exact x
    · have:=Rat.mul_pos (show 0 < -H by grind) x;grind
   have b:H≤h:=by
    rcases (show H≤h ∨ h < H by grind) with x | x
    · exact x
    · have:=Rat.mul_pos (show 0 < -H by grind) (show 0 < H - h by grind);grind
   have c:=qmul_nn (show 0≤h - H by grind) (show 0≤-H - h by grind)
   grind
/-- walking from m to an end x without going away from the line of a, b -/
theorem walk_endQ {p q a b m x:RP} (hL:0 < dq a b) (hno:¬ ComQ p q a b) (hm:OnQ p q m) (hx:OnQ p q x) (m0:0≤innQ a m b) (m1:innQ a m b≤dq a b) (hH:crsQ a b m ≠ 0)
 (hg:crsQ a b m * crsQ a b x≤crsQ a b m * crsQ a b m) {S:Rat} (hS:S * dq a b=crsQ a b m * crsQ a b m):sqQ x a b≤S ∨ sqQ a p q≤S ∨ sqQ b p q≤S:=by
 have hH2:0 < crsQ a b m * crsQ a b m:=by
  have:=qsq (crsQ a b m)
  have:crsQ a b m * crsQ a b m ≠ 0:=by intro e;apply hH;grind
  grind
 have stop:∀ z,OnQ p q z → 0≤innQ a z b → innQ a z b≤dq a b → crsQ a b m * crsQ a b z≤crsQ a b m * crsQ a b m → crsQ a b z * crsQ a b z≤crsQ a b m * crsQ a b m:=by
  intro z hz z0 z1 hzg
  rcases (show 0≤crsQ a b m * crsQ a b z ∨ crsQ a b m * crsQ a b z < 0 by grind) with h | h
  · exact sq_small h hzg hH
  · exact absurd (cross_comQ hL hm hz m0 m1 z0 z1 h) hno
 by_cases x0:0≤innQ a x b
 · by_cases x1:innQ a x b≤dq a b
   · left
     have hh:=stop x hx x0 x1 hg
     obtain ⟨t,u0,u1,ht⟩:=fracQ (s:=innQ a x b) (d:=dq a b) (by grind) (.inl ⟨x0,x1⟩)
     have h1:=sq_min (p:=x) (a:=a) (b:=b) ⟨t,u0,u1,rfl⟩
     have h2:=heightQ a b x
     have h3:dq x (atQ a b t) * dq a b=crsQ a b x * crsQ a b x:=by rw [dq_at];grind
     have h4:=qle_of_mul (a:=dq x (atQ a b t)) (b:=S) hL (by rw [h3,hS];exact hh)
     grind
   · right;right
     obtain ⟨s,s0,s1,hs⟩:=fracQ (s:=dq a b - innQ a m b) (d:=innQ a x b - innQ a m b) (by grind) (.inl ⟨by grind,by grind⟩)
     have hz:=hm.sub hx ⟨s,s0,s1,rfl⟩
     have hzi:innQ a (atQ m x s) b=dq a b:=by rw [innQ_at];grind
     have hzg:crsQ a b m * crsQ a b (atQ m x s)≤crsQ a b m * crsQ a b m:=by
      rw [crsQ_at]
      have:=qmul_nn s0 (show 0≤crsQ a b m * crsQ a b m - crsQ a b m * crsQ a b x by grind)
      grind
     have hh:=stop _ hz (by rw [hzi];exact Rat.le_of_lt hL) (by rw [hzi];exact Rat.le_refl) hzg
     have h1:=sq_min (p:=b) hz
     have h2:=heightQ a b (atQ m x s)
     rw [hzi] at h2
     generalize atQ m x s=z at *
     have h3:dq b z * dq a b=crsQ a b z * crsQ a b z:=by
      have:dq b z=dq z a - 2 * innQ a z b+dq a b:=by unfold dq innQ;grind
      grind
     have h4:=qle_of_mul (a:=dq b z) (b:=S) hL (by rw [h3,hS];exact hh)
     grind
 · right;left
   obtain ⟨s,s0,s1,hs⟩:=fracQ (s:=innQ a m b) (d:=innQ a m b - innQ a x b) (by grind) (.inl ⟨by grind,by grind⟩)
   have hz:=hm.sub hx ⟨s,s0,s1,rfl⟩
   have hzi:innQ a (atQ m x s) b=0:=by rw [innQ_at];grind
   have hzg:crsQ a b m * crsQ a b (atQ m x s)≤crsQ a b m * crsQ a b m:=by
    rw [crsQ_at]
    have:=qmul_nn s0 (show 0≤crsQ a b m * crsQ a b m - crsQ a b m * crsQ a b x by grind)
    grind
   have hh:=stop _ hz (by rw [hzi];exact Rat.le_refl) (by rw [hzi];exact Rat.le_of_lt hL) hzg
   have h1:=sq_min (p:=a) hz
   have h2:=heightQ a b (atQ m x s)
   rw [hzi] at h2
   generalize atQ m x s=z at *
   have h3:dq a z * dq a b=crsQ a b z * crsQ a b z:=by rw [dq_symm];grind
   have h4:=qle_of_mul (a:=dq a z) (b:=S) hL (by rw [h3,hS];exact hh)
   grind
/-- no point of a segment is nearer to another one that it does not meet than the ends of both are -/
theorem sq_ends {p q a b m:RP} (hab:a ≠ b) (hno:¬ ComQ p q a b) (hm:OnQ p q m):sqQ p a b≤sqQ m a b ∨ sqQ q a b≤sqQ m a b ∨ sqQ a p q≤sqQ m a b ∨ sqQ b p q≤sqQ m a b:=by
 have hL:=dq_pos hab
 have e0:sqQ m a b=dq m (atQ a b (clampQ (innQ a m b / dq a b))):=by rw [sqQ,if_neg hab,nearQ]
 have ea:atQ a b 0=a:=Prod.ext (by simp only [atQ];grind) (by simp only [atQ];grind)
 have eb:atQ a b 1=b:=Prod.ext (by simp only [atQ];grind) (by simp only [atQ];grind)
 by_cases c0:innQ a m b / dq a b≤0
 · have hc:clampQ (innQ a m b / dq a b)=0:=by unfold clampQ;rw [if_pos c0]
   rw [hc,ea] at e0
   rw [e0,dq_symm]
   exact .inr (.inr (.inl (sq_min hm)))
 · by_cases c1:1≤innQ a m b / dq a b
   · have hc:clampQ (innQ a m b / dq a b)=1:=by unfold clampQ;rw [if_neg c0,if_pos c1]
     rw [hc,eb] at e0
     rw [e0,dq_symm]
     exact .inr (.inr (.inr (sq_min hm)))
   · have hc:clampQ (innQ a m b / dq a b)=innQ a m b / dq a b:=by unfold clampQ;rw [if_neg c0,if_neg c1]
     have et:innQ a m b / dq a b * dq a b=innQ a m b:=by grind
     rw [hc] at e0
     have m0:0≤innQ a m b:=by rw [←et];exact qmul_nn (by grind) (Rat.le_of_lt hL)
     have m1:innQ a m b≤dq a b:=by
      have:=qmul_nn (show 0≤1 - innQ a m b / dq a b by grind) (Rat.le_of_lt hL);grind
     have hS:sqQ m a b * dq a b=crsQ a b m * crsQ a b m:=by
      have:=heightQ a b m
      rw [e0,dq_at]
      generalize innQ a m b / dq a b=r at *
      grind
     have hH:crsQ a b m ≠ 0:=fun h=>hno ⟨m,hm,on_lineQ hL h m0 m1⟩
     have hgo:crsQ a b m * crsQ a b p≤crsQ a b m * crsQ a b m ∨ crsQ a b m * crsQ a b q≤crsQ a b m * crsQ a b m:=by
      obtain ⟨t,t0,t1,e⟩:=hm
      have e2:crsQ a b m=(1 - t) * crsQ a b p+t * crsQ a b q:=by rw [e,crsQ_at]
      generalize crsQ a b m=H at *
      generalize crsQ a b p=P at *
      generalize crsQ a b q=Q at *
      rcases (show H * P≤H * H ∨ H * H < H * P by grind) with k | k
      · exact .inl k
      · right
        rcases (show H * Q≤H * H ∨ H * H < H * Q by grind) with k2 | k2
        · exact k2
        · exfalso
          have n1:=qmul_nn (show 0≤1 - t by grind) (show 0≤H * P - H * H by grind)
          have n2:=qmul_nn t0 (show 0≤H * Q - H * H by grind)
          have e3:(1 - t) * (H * P - H * H)+t * (H * Q - H * H)=0:=by grind
          have z1:(1 - t) * (H * P - H * H)=0:=by grind
          have z2:t * (H * Q - H * H)=0:=by grind
          by_cases ht:t=0
          · grind
          · grind
     rcases hgo with k | k
     · rcases walk_endQ hL hno hm (OnQ.left p q) m0 m1 hH k hS with h | h | h
       · exact .inl h
       · exact .inr (.inr (.inl h))
       · exact .inr (.inr (.inr h))
     · rcases walk_endQ hL hno hm (OnQ.right p q) m0 m1 hH k hS with h | h | h
       · exact .inr (.inl h)
       · exact .inr (.inr (.inl h))
       · exact .inr (.inr (.inr h))
theorem sqQ_nn (p a b:RP):0≤sqQ p a b:=by obtain ⟨y,_,e⟩:=sq_on p a b;rw [e];exact dq_nn _ _
theorem sq_zero {p a b:RP} (h:sqQ p a b=0):OnQ a b p:=by
 obtain ⟨y,hy,e⟩:=sq_on p a b
 rw [h] at e
 rw [dq_zero e.symm];exact hy
theorem sq_flip_le {p q:RP} (c:RP):sqQ p q c≤dq p q:=sq_min (OnQ.left q c)
/-- v is the least of n numbers -/
def LeastQ (n:Nat) (S:Nat → Rat) (v:Rat):Prop:=(∀ i,i < n → v≤S i)∧∃ i,i < n∧v=S i
/-- the distance of a point from a polygon, as the program takes it -/
def PolD (n:Nat) (f:Nat → RP) (p:RP) (v:Rat):Prop:=(InsQ n f p∧v=0) ∨ (¬ InsQ n f p∧LeastQ n (fun i=>sqQ p (f i) (f (nxQ n i))) v)
def SegD (n:Nat) (f:Nat → RP) (p q:RP) (v:Rat):Prop:=(SegQ n f p q∧v=0) ∨ (¬ SegQ n f p q∧∃ x y z,PolD n f p x∧PolD n f q y∧LeastQ n (fun i=>sqQ (f i) p q) z∧((v=x∧x≤y∧x≤z) ∨ (v=y∧y≤x∧y≤z) ∨ (v=z∧z≤x∧z≤y)))
theorem ConvQ.ne {n:Nat} {f:Nat → RP} (h:ConvQ n f) {i:Nat} (hi:i < n):f i ≠ f (nxQ n i):=by
 intro e
 have n1:=nxQ_of hi
 have n2:=nxQ_of (nxQ_lt hi)
 have:=h.2 i (nxQ n (nxQ n i)) hi (nxQ_lt (nxQ_lt hi)) (by have:=h.1;omega) (by have:=h.1;omega)
 rw [←e] at this
 unfold crsQ at this
 grind
theorem polD_zero {n:Nat} {f:Nat → RP} (h:ConvQ n f) {p:RP} {v:Rat} (hv:PolD n f p v):0≤v∧(v=0 ↔ InsQ n f p):=by
 rcases hv with ⟨a,rfl⟩ | ⟨a,hl,i,hi,e⟩
 · exact ⟨Rat.le_refl,fun _=>a,fun _=>rfl⟩
 · have:=sqQ_nn p (f i) (f (nxQ n i))
   refine ⟨by rw [e];exact this,fun h0=>?_,fun k=>absurd k a⟩
   exact h.on hi (sq_zero (by rw [←h0,e]))
theorem segD_zero {n:Nat} {f:Nat → RP} (h:ConvQ n f) {p q:RP} {v:Rat} (hv:SegD n f p q v):0≤v∧(v=0 ↔ SegQ n f p q):=by
 rcases hv with ⟨a,rfl⟩ | ⟨a,x,y,z,hx,hy,⟨hz,i,hi,e⟩,hc⟩
 · exact ⟨Rat.le_refl,fun _=>a,fun _=>rfl⟩
 · have x0:=polD_zero h hx
   have y0:=polD_zero h hy
   have z0:0≤z:=by rw [e];exact sqQ_nn _ _ _
   have no:¬ ∃ x,OnQ p q x∧InsQ n f x:=fun k=>a ((segQ_iff h).2 k)
   refine ⟨by grind,fun h0=>?_,fun k=>absurd k a⟩
   exfalso
   rcases hc with ⟨e1,_⟩ | ⟨e1,_⟩ | ⟨e1,_⟩
   · exact no ⟨p,OnQ.left _ _,x0.2.1 (by rw [←e1];exact h0)⟩
   · exact no ⟨q,OnQ.right _ _,y0.2.1 (by rw [←e1];exact h0)⟩
   · exact no ⟨f i,sq_zero (by show sqQ (f i) p q=0;rw [←h0,e1];exact e.symm),h.on hi (OnQ.left _ _)⟩
theorem segD_end {n:Nat} {f:Nat → RP} (h:ConvQ n f) {p q:RP} {d e:Rat} (hd:SegD n f p q d) (he:PolD n f p e):d≤e:=by
 rcases hd with ⟨a,rfl⟩ | ⟨a,x,y,z,hx,hy,hz,hc⟩
 · exact (polD_zero h he).1
 · have:x=e:=by
    rcases hx with ⟨b,rfl⟩ | ⟨b,h1,i,hi,e1⟩
    · rcases he with ⟨c,rfl⟩ | ⟨c,_⟩
      · rfl
      · exact absurd b c
    · rcases he with ⟨c,rfl⟩ | ⟨c,h2,j,hj,e2⟩
      · exact absurd c b
      · have:=h1 j hj;have:=h2 i hi;grind
   grind
theorem segD_mid {n:Nat} {f:Nat → RP} (h:ConvQ n f) {p q m:RP} {d e:Rat} (hm:OnQ p q m) (hd:SegD n f p q d) (he:PolD n f m e):d≤e:=by
 rcases hd with ⟨a,rfl⟩ | ⟨a,x,y,z,hx,hy,hz,hc⟩
 · exact (polD_zero h he).1
 · have no:¬ ∃ x,OnQ p q x∧InsQ n f x:=fun k=>a ((segQ_iff h).2 k)
   have np:¬ InsQ n f p:=fun k=>no ⟨p,OnQ.left _ _,k⟩
   have nq:¬ InsQ n f q:=fun k=>no ⟨q,OnQ.right _ _,k⟩
   rcases he with ⟨b,_⟩ | ⟨b,_,i,hi,e1⟩
   · exact absurd ⟨m,hm,b⟩ no
   · have nc:¬ ComQ p q (f i) (f (nxQ n i)):=fun ⟨y,y1,y2⟩=>no ⟨y,y1,h.on hi y2⟩
     have hx':x≤sqQ p (f i) (f (nxQ n i)):=by
      rcases hx with ⟨k,_⟩ | ⟨_,k,_⟩
      · exact absurd k np
      · exact k i hi
     have hy':y≤sqQ q (f i) (f (nxQ n i)):=by
      rcases hy with ⟨k,_⟩ | ⟨_,k,_⟩
      · exact absurd k nq
      · exact k i hi
     have z1:z≤sqQ (f i) p q:=hz.1 i hi
     have z2:z≤sqQ (f (nxQ n i)) p q:=hz.1 (nxQ n i) (nxQ_lt hi)
     rcases sq_ends (h.ne hi) nc hm with k | k | k | k <;> grind
end Go.Proofs.YtafhhemojdblpaaGreat
/-
  Fractions and the rational numbers that they are: what each operation on whole fractions makes of the values; what is small stays valid.
-/
namespace Go.Proofs.YtafhhemojdblpaaGreat
open Go.RowKit
set_option linter.unusedVariables false
/-- the number that a fraction is -/
def rv (Z:RQ):Rat:=(zv Z.1.1 Z.1.2:Rat) / (natV Z.2:Rat)
theorem natQ_pos {n:Nat} (h:0 < n):(0:Rat) < (n:Rat):=by exact_mod_cast h
theorem IsR.rv {Z:RQ} {z:Int} {d:Nat} (h:IsR Z z d):rv Z=(z:Rat) / (d:Rat):=by
 have h1:=natQ_pos h.pos
 have h2:=natQ_pos h.dpos
 obtain ⟨_,_,g,hg,hz,hd⟩:=h
 have e1:(zv Z.1.1 Z.1.2:Rat) * (g:Rat)=(z:Rat):=by exact_mod_cast congrArg (Int.cast (R:=Rat)) hz
 have e2:(natV Z.2:Rat) * (g:Rat)=(d:Rat):=by exact_mod_cast congrArg (Nat.cast (R:=Rat)) hd
 have hg':=natQ_pos hg
 unfold Go.Proofs.YtafhhemojdblpaaGreat.rv
 rw [←e1,←e2]
 grind
/-- a valid fraction is the reduced one of its own parts -/
theorem valid_is {Z:RQ} (h:ratQ Z=true):IsR Z (zv Z.1.1 Z.1.2) (natV Z.2):=by
 have hx:=ratB_big h
 have hd:=ratB_den h
 have h0:=ratB_pos h
 have hn:=bigB_nat hx
 obtain ⟨s1,s2⟩:=ratB_short h
 have hp:=natV_pos hd h0
 have hg:gcdL Z.1.2 Z.2 = [1]:=by
  have h2:=h
  unfold ratQ ratB at h2
  simp only [Bool.and_eq_true,decide_eq_true_eq] at h2
  exact h2.2
 have hc:Nat.gcd (zv Z.1.1 Z.1.2).natAbs (natV Z.2)=1:=by
  rw [zv_abs hn]
  have e:gcdL Z.1.2 Z.2=limbs (Nat.gcd (natV Z.1.2) (natV Z.2)):=by rw [gcdL,hn,hd];rfl
  rw [e] at hg
  exact one_iff.1 hg
 refine ⟨?_,h,1,by decide,by simp,by simp⟩
 rw [lowR,hc,Nat.div_one,Nat.div_one,zv_abs hn,limbs_natV hn,limbs_natV hd,zv_lt hx,if_pos ⟨by omega,s1,s2⟩]
theorem rv_inj {Z Y:RQ} (h:ratQ Z=true) (k:ratQ Y=true) (e:rv Z=rv Y):Z=Y:=by
 have h1:=valid_is h
 have k1:=valid_is k
 have p1:=natQ_pos h1.pos
 have p2:=natQ_pos k1.pos
 unfold rv at e
 have e2:(zv Z.1.1 Z.1.2:Rat) * (natV Y.2:Rat)=(zv Y.1.1 Y.1.2:Rat) * (natV Z.2:Rat):=by grind
 exact isR_eq h1 k1 (by exact_mod_cast e2)
section
variable {Z Y:RQ}
theorem cmpV_rat {a b:Int} {x y:Rat} (h1:a < b ↔ x < y) (h2:a=b ↔ x=y):(cmpV a b < 0 ↔ x < y)∧(cmpV a b=0 ↔ x=y)∧(0 < cmpV a b ↔ y < x):=by
 unfold cmpV
 rcases Int.lt_trichotomy a b with h | h | h
 · rw [if_pos h]
   have:=h1.1 h
   refine ⟨by simp;exact this,by simp;grind,by simp;grind⟩
 · have:=h2.1 h
   rw [if_neg (by omega),if_neg (by omega)]
   refine ⟨by simp;grind,by simp;exact this,by simp;grind⟩
 · have n1:¬ x < y:=fun k=>by have:=h1.2 k;omega
   have n2:¬ x=y:=fun k=>by have:=h2.2 k;omega
   rw [if_neg (by omega),if_pos h]
   refine ⟨by simp;grind,by simp;exact n2,by simp;grind⟩
theorem cmpW_rv (h:ratQ Z=true) (k:ratQ Y=true):(cmpW Z.1.1 Z.1.2 Z.2 Y.1.1 Y.1.2 Y.2 < 0 ↔ rv Z < rv Y)∧(cmpW Z.1.1 Z.1.2 Z.2 Y.1.1 Y.1.2 Y.2=0 ↔ rv Z=rv Y)∧(0 < cmpW Z.1.1 Z.1.2 Z.2 Y.1.1 Y.1.2 Y.2 ↔ rv Y < rv Z):=by
 have p1:=natQ_pos (valid_is h).pos
 have p2:=natQ_pos (valid_is k).pos
 rw [cmpW_is (valid_is h) (valid_is k)]
 have e1:rv Z * (natV Z.2:Rat)=(zv Z.1.1 Z.1.2:Rat):=by unfold rv;grind
 have e2:rv Y * (natV Y.2:Rat)=(zv Y.1.1 Y.1.2:Rat):=by unfold rv;grind
 have c:∀ a b:Int,(a < b ↔ (a:Rat) < (b:Rat))∧(a=b ↔ (a:Rat)=(b:Rat)):=fun a b=>⟨by exact_mod_cast Iff.rfl,by exact_mod_cast Iff.rfl⟩
 have m:(0:Rat) < (natV Z.2:Rat) * (natV Y.2:Rat):=Rat.mul_pos p1 p2
 refine cmpV_rat ?_ ?_
 · rw [(c _ _).1];push_cast
   rw [←e1,←e2]
   constructor
   · intro hl
     rcases (show rv Z < rv Y ∨ rv Y≤rv Z by grind) with q | q
     · exact q
     · have:=qmul_nn (show 0≤rv Z - rv Y by grind) (Rat.le_of_lt m);grind
   · intro hl
     have:=Rat.mul_pos (show 0 < rv Y - rv Z by grind) m;grind
 · rw [(c _ _).2];push_cast
   rw [←e1,←e2]
   constructor
   · intro hl
     rcases (show rv Z < rv Y ∨ rv Y < rv Z ∨ rv Z=rv Y by grind) with q | q | q
     · have:=Rat.mul_pos (show 0 < rv Y - rv Z by grind) m;grind
     · have:=Rat.mul_pos (show 0 < rv Z - rv Y by grind) m;grind
     · exact q
   · intro hl;rw [hl];grind
theorem signQ_rv (h:ratQ Z=true):(signQ Z < 0 ↔ rv Z < 0)∧(signQ Z=0 ↔ rv Z=0)∧(0 < signQ Z ↔ 0 < rv Z):=by
 have p1:=natQ_pos (valid_is h).pos
 have e1:rv Z * (natV Z.2:Rat)=(zv Z.1.1 Z.1.2:Rat):=by unfold rv;grind
 rw [show signQ Z=cmpV (zv Z.1.1 Z.1.2) 0 from signR_is (valid_is h)]
 have c:∀ a b:Int,(a < b ↔ (a:Rat) < (b:Rat))∧(a=b ↔ (a:Rat)=(b:Rat)):=fun a b=>⟨by exact_mod_cast Iff.rfl,by exact_mod_cast Iff.rfl⟩
 refine cmpV_rat ?_ ?_
 · rw [(c _ _).1,←e1]
   push_cast
   constructor
   · intro hl
     rcases (show rv Z < 0 ∨ 0≤rv Z by grind) with q | q
     · exact q
     · have:=qmul_nn q (Rat.le_of_lt p1);grind
   · intro hl
     have:=Rat.mul_pos (show 0 < -rv Z by grind) p1;grind
 · rw [(c _ _).2,←e1]
   push_cast
   constructor
   · intro hl;grind
   · intro hl;rw [hl];grind
theorem minQ_val (h:ratQ Z=true) (k:ratQ Y=true):minQ Z Y=if rv Z≤rv Y then Z else Y:=by
 have hc:=cmpW_rv h k
 unfold minQ minR
 rw [show (ratB Z.1.1 Z.1.2 Z.2 && ratB Y.1.1 Y.1.2 Y.2)=true by unfold ratQ at h k;rw [h,k];rfl,if_pos rfl]
 by_cases hl:rv Z≤rv Y
 · rw [if_pos hl,if_pos (by rcases Int.lt_or_le 0 (cmpW Z.1.1 Z.1.2 Z.2 Y.1.1 Y.1.2 Y.2) with q | q;(exact absurd (hc.2.2.1 q) (by grind));exact q)]
 · rw [if_neg hl,if_neg (by have:=hc.2.2.2 (by grind);omega)]
theorem maxQ_val (h:ratQ Z=true) (k:ratQ Y=true):maxQ Z Y=if rv Y≤rv Z then Z else Y:=by
 have hc:=cmpW_rv h k
 unfold maxQ maxR
 rw [show (ratB Z.1.1 Z.1.2 Z.2 && ratB Y.1.1 Y.1.2 Y.2)=true by unfold ratQ at h k;rw [h,k];rfl,if_pos rfl]
 by_cases hl:rv Y≤rv Z
 · rw [if_pos hl,if_pos (by rcases Int.lt_or_le (cmpW Z.1.1 Z.1.2 Z.2 Y.1.1 Y.1.2 Y.2) 0 with q | q;(exact absurd (hc.1.1 q) (by grind));exact q)]
 · rw [if_neg hl,if_neg (by have:=hc.1.2 (by grind);omega)]
end
/-! ### small fractions: they stay valid -/
/-- the number x as a fraction with parts of at most B -/
def IsV (Z:RQ) (x:Rat) (B:Nat):Prop:=∃ (z:Int) (d:Nat),IsS Z z d B∧x=(z:Rat) / (d:Rat)
section
variable {Z Y:RQ} {x y:Rat} {B C:Nat}
theorem IsV.ok (h:IsV Z x B):ratQ Z=true:=by obtain ⟨z,d,h,_⟩:=h;exact h.valid
theorem IsV.rv (h:IsV Z x B):rv Z=x:=by obtain ⟨z,d,h,e⟩:=h;rw [h.1.rv,e]
theorem IsV.fit (h:IsV Z x B):QFit Z:=by obtain ⟨z,d,h,_⟩:=h;exact h.fit
theorem IsV.mono (h:IsV Z x B) (hB:B≤C):IsV Z x C:=by obtain ⟨z,d,⟨h1,h2,h3⟩,e⟩:=h;exact ⟨z,d,⟨h1,by omega,by omega⟩,e⟩
theorem IsV.add (h:IsV Z x B) (k:IsV Y y C) (hB:2 * (B * C) < 1000000000 ^ 24):IsV (addQ Z Y) (x+y) (2 * (B * C)):=by
 obtain ⟨z,d,h,rfl⟩:=h
 obtain ⟨w,e,k,rfl⟩:=k
 have p1:=natQ_pos h.dpos
 have p2:=natQ_pos k.dpos
 exact ⟨_,_,h.add k hB,by push_cast;grind⟩
theorem IsV.sub (h:IsV Z x B) (k:IsV Y y C) (hB:2 * (B * C) < 1000000000 ^ 24):IsV (subQ Z Y) (x - y) (2 * (B * C)):=by
 obtain ⟨z,d,h,rfl⟩:=h
 obtain ⟨w,e,k,rfl⟩:=k
 have p1:=natQ_pos h.dpos
 have p2:=natQ_pos k.dpos
 exact ⟨_,_,h.sub k hB,by push_cast;grind⟩
theorem IsV.mul (h:IsV Z x B) (k:IsV Y y C) (hB:2 * (B * C) < 1000000000 ^ 24):IsV (mulQ Z Y) (x * y) (B * C):=by
 obtain ⟨z,d,h,rfl⟩:=h
 obtain ⟨w,e,k,rfl⟩:=k
 have p1:=natQ_pos h.dpos
 have p2:=natQ_pos k.dpos
 exact ⟨_,_,h.mul k hB,by push_cast;grind⟩
theorem IsV.div (h:IsV Z x B) (k:IsV Y y C) (h0:y ≠ 0) (hB:2 * (B * C) < 1000000000 ^ 24):IsV (divQ Z Y) (x / y) (B * C):=by
 obtain ⟨z,d,h,rfl⟩:=h
 obtain ⟨w,e,k,rfl⟩:=k
 have p1:=natQ_pos h.dpos
 have p2:=natQ_pos k.dpos
 have hw:w ≠ 0:=by intro e0;apply h0;rw [e0];grind
 have hw0:(w:Rat) ≠ 0:=by exact_mod_cast hw
 have hd:=h.dpos
 have he:=k.dpos
 have hs:IsS (divQ Z Y) (z * e * (if w < 0 then -1 else 1)) (w.natAbs * d) (B * C):=by
  rw [show divQ Z Y=_ from divR_is h.1 k.1 hw]
  have a1:(z * (e:Int)).natAbs≤B * C:=ab_mul h.2.1 (by simpa using k.2.2)
  have a2:(z * (e:Int) * (if w < 0 then -1 else 1)).natAbs≤B * C:=by
   split <;> simpa using a1
  have a3:w.natAbs * d≤B * C:=by rw [Nat.mul_comm];exact Nat.mul_le_mul h.2.2 k.2.1
  exact low_S (Nat.mul_pos (by omega) hd) a2 a3 (by omega)
 refine ⟨_,_,hs,?_⟩
 by_cases hn:w < 0
 · have e1:((w.natAbs:Nat):Rat) = -(w:Rat):=by
    have:((w.natAbs:Nat):Int) = -w:=by omega
    exact_mod_cast congrArg (Int.cast (R:=Rat)) this
   rw [if_pos hn];push_cast;rw [e1];grind
 · have e1:((w.natAbs:Nat):Rat)=(w:Rat):=by
    have:((w.natAbs:Nat):Int)=w:=by omega
    exact_mod_cast congrArg (Int.cast (R:=Rat)) this
   rw [if_neg hn];push_cast;rw [e1];grind
theorem IsV.min (h:IsV Z x B) (k:IsV Y y C):IsV (minQ Z Y) (if x≤y then x else y) (max B C):=by
 rw [minQ_val h.ok k.ok,h.rv,k.rv]
 split
 · exact h.mono (Nat.le_max_left _ _)
 · exact k.mono (Nat.le_max_right _ _)
theorem IsV.max (h:IsV Z x B) (k:IsV Y y C):IsV (maxQ Z Y) (if y≤x then x else y) (Nat.max B C):=by
 rw [maxQ_val h.ok k.ok,h.rv,k.rv]
 split
 · exact h.mono (Nat.le_max_left _ _)
 · exact k.mono (Nat.le_max_right _ _)
theorem intQ_V (a:Int) (ha:a.natAbs≤1000):IsV (intQ a) (a:Rat) (max a.natAbs 1):=by
 refine ⟨a,1,?_,by grind⟩
 have hp:(1000:Nat) < 1000000000 ^ 24:=by decide +kernel
 rw [intQ_low a ha]
 exact low_S (by decide) (Nat.le_max_left _ _) (Nat.le_max_right _ _) (by omega)
end
end Go.Proofs.YtafhhemojdblpaaGreat
/-
  The square of the distance from a segment, as the reference takes it: the same fraction. A variable that is stored anew in a region that reads it.
-/
namespace Go.Proofs.YtafhhemojdblpaaGreat
open Go.RowKit
set_option linter.unusedVariables false
theorem intQ_01:(ratQ (intQ 0)=true∧rv (intQ 0)=0)∧(ratQ (intQ 1)=true∧rv (intQ 1)=1):=by
 have h0:=intQ_V 0 (by decide)
 have h1:=intQ_V 1 (by decide)
 exact ⟨⟨h0.ok,by rw [h0.rv];rfl⟩,h1.ok,by rw [h1.rv];rfl⟩
theorem sameP_iff {A B:PQ}:sameP A B=true ↔ A=B:=by
 unfold sameP sameQ sameR
 simp only [Bool.and_eq_true,decide_eq_true_eq,beq_iff_eq]
 constructor
 · rintro ⟨⟨⟨a,b⟩,c⟩,⟨d,e⟩,f⟩
   exact Prod.ext (Prod.ext (Prod.ext a b) c) (Prod.ext (Prod.ext d e) f)
 · rintro rfl
   exact ⟨⟨⟨rfl,rfl⟩,rfl⟩,⟨rfl,rfl⟩,rfl⟩
end Go.Proofs.YtafhhemojdblpaaGreat
