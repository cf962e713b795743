/-
  What the program's tests on segments say of the plane.
-/
import Derived.Test.YtafhhemojdblpaaGreatSegF2
import Derived.Test.YtafhhemojdblpaaGreatSGV
namespace Go.Proofs.YtafhhemojdblpaaGreat
open Go.RowKit
set_option linter.unusedVariables false
/-- the point of the plane that a pair of fractions is -/
def rp (P:PQ):RP:=(rv P.1,rv P.2)
def okP (P:PQ):Prop:=ratQ P.1=true∧ratQ P.2=true
theorem sc_rv {P:PQ} (h:okP P):((scP P).1:Rat)=rv P.1 * ((scP P).2.2:Rat)∧((scP P).2.1:Rat)=rv P.2 * ((scP P).2.2:Rat)∧(0:Rat) < ((scP P).2.2:Rat):=by
 have p1:=natQ_pos (valid_is h.1).pos
 have p2:=natQ_pos (valid_is h.2).pos
 unfold scP rv
 push_cast
 refine ⟨by grind,by grind,Rat.mul_pos p1 p2⟩
theorem cast_lt {a b:Int}:a < b ↔ (a:Rat) < (b:Rat):=by exact_mod_cast Iff.rfl
theorem cast_eq {a b:Int}:a=b ↔ (a:Rat)=(b:Rat):=by exact_mod_cast Iff.rfl
/-- the sign of a number that is a positive multiple of another -/
theorem cmpV_mul {z:Int} {k x:Rat} (hk:0 < k) (h:(z:Rat)=k * x):(cmpV z 0 < 0 ↔ x < 0)∧(cmpV z 0=0 ↔ x=0)∧(0 < cmpV z 0 ↔ 0 < x):=by
 refine cmpV_rat ?_ ?_
 · rw [cast_lt,h]
   push_cast
   constructor
   · intro hl
     rcases (show x < 0 ∨ 0≤x by grind) with q | q
     · exact q
     · have:=qmul_nn (Rat.le_of_lt hk) q;grind
   · intro hl
     have:=Rat.mul_pos hk (show 0 < -x by grind);grind
 · rw [cast_eq,h]
   push_cast
   constructor
   · intro hl;grind
   · intro hl;rw [hl];grind
theorem sg_rv {P Q R:PQ} (hp:okP P) (hq:okP Q) (hr:okP R):(sgC (scP P) (scP Q) (scP R) < 0 ↔ crsQ (rp P) (rp Q) (rp R) < 0)∧(sgC (scP P) (scP Q) (scP R)=0 ↔ crsQ (rp P) (rp Q) (rp R)=0)∧(0 < sgC (scP P) (scP Q) (scP R) ↔ 0 < crsQ (rp P) (rp Q) (rp R)):=by
 obtain ⟨a1,a2,a3⟩:=sc_rv hp
 obtain ⟨b1,b2,b3⟩:=sc_rv hq
 obtain ⟨c1,c2,c3⟩:=sc_rv hr
 unfold sgC
 refine cmpV_mul (k:=((scP P).2.2:Rat) * ((scP Q).2.2:Rat) * (((scP P).2.2:Rat) * ((scP R).2.2:Rat))) (Rat.mul_pos (Rat.mul_pos a3 b3) (Rat.mul_pos a3 c3)) ?_
 unfold crossS wayX wayY
 push_cast
 rw [a1,a2,b1,b2,c1,c2]
 simp only [crsQ,rp]
 grind
theorem prod_opp {x y:Int} {a b:Rat} (hx:-1≤x∧x≤1) (hy:-1≤y∧y≤1) (h1:x < 0 ↔ a < 0) (h2:0 < x ↔ 0 < a) (h3:y < 0 ↔ b < 0) (h4:0 < y ↔ 0 < b):x * y≤0 ↔ oppQ a b:=by
 unfold oppQ
 rw [←h1,←h2,←h3,←h4]
 rcases (show x = -1 ∨ x=0 ∨ x=1 by omega) with rfl | rfl | rfl <;> omega
theorem lineB_iff {P Q R T:PQ} (hp:okP P) (hq:okP Q) (hr:okP R) (ht:okP T):lineB (P,Q) (R,T)=true ↔ oppQ (crsQ (rp P) (rp Q) (rp R)) (crsQ (rp P) (rp Q) (rp T)):=by
 unfold lineB
 rw [decide_eq_true_eq]
 have s1:=sg_rv hp hq hr
 have s2:=sg_rv hp hq ht
 exact prod_opp (sgC_range _ _ _) (sgC_range _ _ _) s1.1 s1.2.2 s2.1 s2.2.2
theorem cmpQ_le {Z Y:RQ} (h:ratQ Z=true) (k:ratQ Y=true):cmpQ Z Y≤0 ↔ rv Z≤rv Y:=by
 have c:=cmpW_rv h k
 have e:cmpQ Z Y=cmpW Z.1.1 Z.1.2 Z.2 Y.1.1 Y.1.2 Y.2:=rfl
 rw [e]
 constructor
 · intro hl
   rcases (show rv Z≤rv Y ∨ rv Y < rv Z by grind) with q | q
   · exact q
   · have:=c.2.2.2 q;omega
 · intro hl
   rcases Int.lt_or_le 0 (cmpW Z.1.1 Z.1.2 Z.2 Y.1.1 Y.1.2 Y.2) with q | q
   · have:=c.2.2.1 q;grind
   · exact q
theorem low_rv {Z Y:RQ} (h:ratQ Z=true) (k:ratQ Y=true):rv (lowQ Z Y)=if rv Y < rv Z then rv Y else rv Z:=by
 have c:=cmpW_rv k h
 unfold lowQ
 have e:cmpQ Y Z=cmpW Y.1.1 Y.1.2 Y.2 Z.1.1 Z.1.2 Z.2:=rfl
 by_cases hl:rv Y < rv Z
 · rw [if_pos hl,if_pos (by rw [e];exact c.1.2 hl)]
 · rw [if_neg hl,if_neg (by rw [e];exact fun h=>hl (c.1.1 h))]
theorem high_rv {Z Y:RQ} (h:ratQ Z=true) (k:ratQ Y=true):rv (highQ Z Y)=if rv Z < rv Y then rv Y else rv Z:=by
 have c:=cmpW_rv k h
 unfold highQ
 have e:cmpQ Y Z=cmpW Y.1.1 Y.1.2 Y.2 Z.1.1 Z.1.2 Z.2:=rfl
 by_cases hl:rv Z < rv Y
 · rw [if_pos hl,if_pos (by rw [e];exact c.2.2.2 hl)]
 · rw [if_neg hl,if_neg (by rw [e];exact fun h=>hl (c.2.2.1 h))]
theorem ranges_iff {Z Y X V:RQ} (hz:ratQ Z=true) (hy:ratQ Y=true) (hx:ratQ X=true) (hv:ratQ V=true):rangesB Z Y X V=true ↔ rngQ (rv Z) (rv Y) (rv X) (rv V):=by
 unfold rangesB
 rw [Bool.and_eq_true,decide_eq_true_eq,decide_eq_true_eq,cmpQ_le (low_ok hz hy) (high_ok hx hv),cmpQ_le (low_ok hx hv) (high_ok hz hy),low_rv hz hy,high_rv hx hv,low_rv hx hv,high_rv hz hy]
 unfold rngQ
 grind
theorem meets_iff {P Q R T:PQ} (hp:okP P) (hq:okP Q) (hr:okP R) (ht:okP T):meetsB (P,Q) (R,T)=true ↔ MeetQ (rp P) (rp Q) (rp R) (rp T):=by
 unfold meetsB MeetQ
 simp only [Bool.and_eq_true]
 rw [ranges_iff hp.1 hq.1 hr.1 ht.1,ranges_iff hp.2 hq.2 hr.2 ht.2,lineB_iff hp hq hr ht,lineB_iff hr ht hp hq]
 simp only [rp,and_assoc]
/-! ### polygons -/
/-- corner i in the plane -/
def fl_ (l:List V2) (i:Nat):RP:=((atV l i).1,(atV l i).2)
theorem intQ_rv {a:Int} (h:a.natAbs≤1000):rv (intQ a)=(a:Rat):=(intQ_V a h).rv
theorem vec_rp {v:V2} (h:vecV v=true):okP (vecP v.1 v.2)∧rp (vecP v.1 v.2)=((v.1:Rat),(v.2:Rat)):=by
 have hb:=vecB_bounds (x:=v.1) (y:=v.2) h
 refine ⟨vecP_ok h,?_⟩
 show (rv (intQ v.1),rv (intQ v.2))=_
 rw [intQ_rv (by omega),intQ_rv (by omega)]
theorem poly_conv {l:List V2} (h:polyP l):ConvQ l.length (fl_ l):=by
 obtain ⟨h3,_,hE⟩:=h
 refine ⟨h3,fun i j hi hj hne hnx=>?_⟩
 have h0:=hE i hi j hj hne hnx
 unfold tV turnI at h0
 split at h0
 · simp only [crsQ,fl_,nxQ]
   have:(0:Rat) < (((atV l ((i+1) % l.length)).1 - (atV l i).1) * ((atV l j).2 - (atV l i).2) - ((atV l ((i+1) % l.length)).2 - (atV l i).2) * ((atV l j).1 - (atV l i).1):Int):=by
    have:=cast_lt.1 h0
    simpa using this
   push_cast at this
   exact this
 · omega
theorem edge_rp {l:List V2} (h:polyP l) {i:Nat} (hi:i < l.length):(okP (edgeP l i).1∧okP (edgeP l i).2)∧rp (edgeP l i).1=fl_ l i∧rp (edgeP l i).2=fl_ l (nxQ l.length i):=by
 have v1:=vec_rp (poly_vec h hi)
 have v2:=vec_rp (poly_vec h (Nat.mod_lt (i+1) (show 0 < l.length by omega)))
 exact ⟨⟨v1.1,v2.1⟩,v1.2,v2.2⟩
theorem any_iff {l:List V2} (h:polyP l) {P Q:PQ} (hp:okP P) (hq:okP Q):anyE (P,Q) l=true ↔ ∃ i,i < l.length∧MeetQ (rp P) (rp Q) (fl_ l i) (fl_ l (nxQ l.length i)):=by
 rw [anyE_iff]
 constructor
 · rintro ⟨i,hi,hm⟩
   obtain ⟨⟨k1,k2⟩,e1,e2⟩:=edge_rp h hi
   refine ⟨i,hi,?_⟩
   rw [←e1,←e2]
   exact (meets_iff hp hq k1 k2).1 hm
 · rintro ⟨i,hi,hm⟩
   obtain ⟨⟨k1,k2⟩,e1,e2⟩:=edge_rp h hi
   refine ⟨i,hi,?_⟩
   rw [←e1,←e2] at hm
   exact (meets_iff hp hq k1 k2).2 hm
theorem sgS_rv {l:List V2} {P:PQ} (hp:okP P) (i:Nat):0≤sgS l (scP P) i ↔ 0≤crsQ (fl_ l i) (fl_ l (nxQ l.length i)) (rp P):=by
 obtain ⟨a1,a2,a3⟩:=sc_rv hp
 have hc:∀ a b:Int,cmpV a b=cmpV (a - b) 0:=fun a b=>by unfold cmpV;split <;> split <;> (try split) <;> (try split) <;> omega
 unfold sgS
 rw [hc]
 have k:=cmpV_mul (z:=((atV l ((i+1) % l.length)).1 - (atV l i).1) * ((scP P).2.1 - (atV l i).2 * (scP P).2.2) - ((atV l ((i+1) % l.length)).2 - (atV l i).2) * ((scP P).1 - (atV l i).1 * (scP P).2.2)) (k:=((scP P).2.2:Rat)) (x:=crsQ (fl_ l i) (fl_ l (nxQ l.length i)) (rp P)) a3 (by
  push_cast
  rw [a1,a2]
  simp only [crsQ,fl_,nxQ,rp]
  grind)
 constructor
 · intro h
   rcases (show 0≤crsQ (fl_ l i) (fl_ l (nxQ l.length i)) (rp P) ∨ crsQ (fl_ l i) (fl_ l (nxQ l.length i)) (rp P) < 0 by grind) with q | q
   · exact q
   · have:=k.1.2 q;omega
 · intro h
   rcases Int.lt_or_le (cmpV (((atV l ((i+1) % l.length)).1 - (atV l i).1) * ((scP P).2.1 - (atV l i).2 * (scP P).2.2) - ((atV l ((i+1) % l.length)).2 - (atV l i).2) * ((scP P).1 - (atV l i).1 * (scP P).2.2)) 0) 0 with q | q
   · have:=k.1.1 q;grind
   · exact q
theorem cont_iff {l:List V2} (h:polyP l) {P:PQ} (hp:okP P):0≤contS l (scP P) ↔ InsQ l.length (fl_ l) (rp P):=by
 unfold contS
 rw [if_pos (polyB_iff.2 h)]
 constructor
 · intro h0 i hi
   have:=inS_le l (scP P) l.length i hi
   exact (sgS_rv hp i).1 (by omega)
 · intro h0
   exact inS_nn l (scP P) l.length fun i hi=>(sgS_rv hp i).2 (h0 i hi)
theorem segM_iff {l:List V2} (h:polyP l) {P Q:PQ} (hp:okP P) (hq:okP Q):segM l P Q (scP P)=true ↔ SegQ l.length (fl_ l) (rp P) (rp Q):=by
 unfold segM SegQ
 rw [Bool.or_eq_true,decide_eq_true_eq,cont_iff h hp,any_iff h hp hq]
/-! ### small points -/
theorem rv_parts {Z:RQ} (h:ratQ Z=true) {z:Int} {d:Nat} (hd:0 < d) (e:rv Z=(z:Rat) / (d:Rat)) (hz:z.natAbs < 1000000000 ^ 24) (hd2:d < 1000000000 ^ 24):(zv Z.1.1 Z.1.2).natAbs≤z.natAbs∧natV Z.2≤d:=by
 have hi:=isR hd hz hd2
 have he:Z=lowR z d:=rv_inj h hi.2.1 (by rw [hi.rv,e])
 rw [←he] at hi
 obtain ⟨_,_,g,hg,h1,h2⟩:=hi
 refine ⟨?_,?_⟩
 · rw [←h1,Int.natAbs_mul];exact Nat.le_mul_of_pos_right _ (by omega)
 · rw [←h2];exact Nat.le_mul_of_pos_right _ hg
theorem small_of {P:PQ} (h:okP P) {x y:Int} {d e:Nat} (hd:0 < d∧d≤32) (he:0 < e∧e≤31) (hx:x.natAbs≤1000) (hy:y.natAbs≤1000) (h1:rv P.1=(x:Rat) / (d:Rat)) (h2:rv P.2=(y:Rat) / (e:Rat)):SmallP P (scP P):=by
 have hp:(1000:Nat) < 1000000000 ^ 24:=by decide +kernel
 obtain ⟨a1,a2⟩:=rv_parts h.1 hd.1 h1 (by omega) (by omega)
 obtain ⟨b1,b2⟩:=rv_parts h.2 he.1 h2 (by omega) (by omega)
 have p1:=(valid_is h.1).pos
 have p2:=(valid_is h.2).pos
 refine ⟨h,rfl,?_,?_,?_,?_⟩
 · show (zv P.1.1.1 P.1.1.2 * natV P.2.2).natAbs≤1000000
   rw [Int.natAbs_mul]
   exact Nat.le_trans (Nat.mul_le_mul (Nat.le_trans a1 hx) (show (natV P.2.2:Int).natAbs≤31 by omega)) (by omega)
 · show (zv P.2.1.1 P.2.1.2 * natV P.1.2).natAbs≤1000000
   rw [Int.natAbs_mul]
   exact Nat.le_trans (Nat.mul_le_mul (Nat.le_trans b1 hy) (show (natV P.1.2:Int).natAbs≤32 by omega)) (by omega)
 · show 0 < (natV P.1.2:Int) * natV P.2.2
   rw [←Int.natCast_mul];exact_mod_cast Nat.mul_pos p1 p2
 · show (natV P.1.2:Int) * natV P.2.2≤1000
   rw [←Int.natCast_mul]
   have:=Nat.mul_le_mul (show natV P.1.2≤32 by omega) (show natV P.2.2≤31 by omega)
   omega
/-- a point of the laws' draws -/
def DrawP (P:PQ):Prop:=∃ (x:Int) (d:Nat) (y:Int),IsV P.1 ((x:Rat) / (d:Rat)) 41∧IsV P.2 (y:Rat) 10∧(x.natAbs≤41∧0 < d∧d≤4)∧y.natAbs≤10
theorem DrawP.ok {P:PQ} (h:DrawP P):okP P:=by obtain ⟨x,d,y,h1,h2,_⟩:=h;exact ⟨h1.ok,h2.ok⟩
theorem DrawP.small {P:PQ} (h:DrawP P):SmallP P (scP P):=by
 obtain ⟨x,d,y,h1,h2,⟨b1,b2,b3⟩,b4⟩:=h
 exact small_of ⟨h1.ok,h2.ok⟩ ⟨b2,by omega⟩ ⟨Nat.one_pos,by omega⟩ (by omega) (show y.natAbs≤1000 by omega) h1.rv (by rw [h2.rv];grind)
theorem DrawP.fit {P:PQ} (h:DrawP P):PFit P:=by obtain ⟨x,d,y,h1,h2,_⟩:=h;exact ⟨h1.fit,h2.fit⟩
theorem half_V:IsV halfQ (1 / 2) 2:=⟨1,2,halfQ_S,by grind⟩
theorem draw_mid {P Q:PQ} (hp:DrawP P) (hq:DrawP Q):okP (midP P Q)∧rp (midP P Q)=midQ (rp P) (rp Q)∧SmallP (midP P Q) (scP (midP P Q))∧(IsV (midP P Q).1 (rv (midP P Q).1) 6724∧IsV (midP P Q).2 (rv (midP P Q).2) 400):=by
 obtain ⟨x,d,y,h1,h2,⟨b1,b2,b3⟩,b4⟩:=hp
 obtain ⟨x',d',y',h1',h2',⟨b1',b2',b3'⟩,b4'⟩:=hq
 have B1:2 * (41 * 41) < 1000000000 ^ 24:=by decide +kernel
 have B2:2 * (2 * (41 * 41) * 2) < 1000000000 ^ 24:=by decide +kernel
 have B3:2 * (10 * 10) < 1000000000 ^ 24:=by decide +kernel
 have B4:2 * (2 * (10 * 10) * 2) < 1000000000 ^ 24:=by decide +kernel
 have m1:=(h1.add h1' B1).mul half_V B2
 have m2:=(h2.add h2' B3).mul half_V B4
 have e:midP P Q=(mulQ (addQ P.1 Q.1) halfQ,mulQ (addQ P.2 Q.2) halfQ):=by
  unfold midP sureP validP
  rw [m1.ok,m2.ok];rfl
 have r1:rv (midP P Q).1=((x:Rat) / (d:Rat)+(x':Rat) / (d':Rat)) * (1 / 2):=by rw [e];exact m1.rv
 have r2:rv (midP P Q).2=((y:Rat)+(y':Rat)) * (1 / 2):=by rw [e];exact m2.rv
 have ho:okP (midP P Q):=by rw [e];exact ⟨m1.ok,m2.ok⟩
 have p1:=natQ_pos b2
 have p2:=natQ_pos b2'
 refine ⟨ho,?_,?_,?_,?_⟩
 · show (rv (midP P Q).1,rv (midP P Q).2)=((rv P.1+rv Q.1) / 2,(rv P.2+rv Q.2) / 2)
   rw [r1,r2,h1.rv,h1'.rv,h2.rv,h2'.rv]
   refine Prod.ext (by grind) (by grind)
 · have c1:(x * (d':Int)+x' * (d:Int)).natAbs≤328:=by
    have a1:(x * (d':Int)).natAbs≤41 * 4:=ab_mul b1 (by simpa using b3')
    have a2:(x' * (d:Int)).natAbs≤41 * 4:=ab_mul b1' (by simpa using b3)
    omega
   have c2:d * d' * 2≤32:=by have:=Nat.mul_le_mul b3 b3';omega
   refine small_of ho (x:=x * d'+x' * d) (d:=d * d' * 2) (y:=y+y') (e:=2) ⟨Nat.mul_pos (Nat.mul_pos b2 b2') (by omega),c2⟩ ⟨by omega,by omega⟩ (by omega) (by omega) ?_ ?_
   · rw [r1];push_cast;grind
   · rw [r2];push_cast;grind
 · rw [r1,e];exact m1
 · rw [r2,e];exact m2
end Go.Proofs.YtafhhemojdblpaaGreat
