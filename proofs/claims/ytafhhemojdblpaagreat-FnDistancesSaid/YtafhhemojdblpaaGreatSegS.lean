/-
  Signed numbers of any length in memory: what reads as a number, what is of the call's own; times, minus, sign, signedOf; scaled points.
-/
import Derived.Test.YtafhhemojdblpaaGreatBX
import Derived.Test.YtafhhemojdblpaaGreatPtM
import Derived.Test.YtafhhemojdblpaaGreatPC
namespace Go.Proofs.YtafhhemojdblpaaGreat
open Go.RowKit
set_option linter.unusedVariables false
def Sz (k:Nat) (z:Int):Prop:=z.natAbs < 1000000000 ^ k
theorem Sz.mono {j k:Nat} {z:Int} (h:Sz j z) (hk:j≤k):Sz k z:=Nat.lt_of_lt_of_le h (Nat.pow_le_pow_right (by omega) hk)
theorem Sz.mul {j k:Nat} {a b:Int} (h:Sz j a) (h':Sz k b):Sz (j+k) (a * b):=by
 unfold Sz at *
 rw [Int.natAbs_mul,Nat.pow_add]
 exact Nat.mul_lt_mul'' h h'
theorem pow_two {k:Nat}:1000000000 ^ k+1000000000 ^ k≤1000000000 ^ (k+1):=by rw [Nat.pow_succ];omega
theorem Sz.sub {k:Nat} {a b:Int} (h:Sz k a) (h':Sz k b):Sz (k+1) (a - b):=by
 have:=pow_two (k:=k)
 have:=Int.natAbs_sub_le a b
 unfold Sz at *;omega
theorem Sz.len {k:Nat} {z:Int} (h:Sz k z):(limbs z.natAbs).length≤k:=limbs_len.2 h
theorem zv_sgn {g:Bool} {z:Int} (h:SgnOk g z):zv g (limbs z.natAbs)=z:=by
 unfold zv
 rw [val_limbs]
 by_cases hz:z=0
 · subst hz;cases g <;> rfl
 · rw [h hz]
   by_cases hn:z < 0
   · rw [decide_eq_true hn,if_pos rfl];omega
   · rw [decide_eq_false hn,if_neg (by simp)];omega
/-- the number z, list and sign, readable below block B -/
def SIn (w:World) (B:Nat) (v b:Value) (z:Int):Prop:=∃ A n c g,v=.slice A n c∧b=.bool g∧SgnOk g z∧RdI w B A n (limbs z.natAbs)
def SOwn (w:World) (lo hi:Nat) (E:TypeId) (v b:Value) (z:Int):Prop:=∃ g,b=.bool g∧SgnOk g z∧Own w lo hi E v (limbs z.natAbs).length (iv (limbs z.natAbs))
def SRes (TI:TypeId) (w w':World) (e:Ending) (z:Int):Prop:=∃ v b,e=.returned (.agg #[v,b])∧SOwn w' w.heap.size w'.heap.size TI v b z∧Below w.heap.size w w'
def S2 (v b:Value):Prop:=∃ A n c g,v=.slice A n c∧b=.bool g
section
variable {w w':World} {B B' lo hi lo' hi' g:Nat} {E:TypeId} {v b:Value} {z:Int}
theorem SIn.below (h:SIn w B v b z) (hb:Below B w w'):SIn w' B v b z:=by
 obtain ⟨A,n,c,s,e0,e1,hs,r⟩:=h
 exact ⟨A,n,c,s,e0,e1,hs,r.below hb⟩
theorem SIn.wider (h:SIn w B v b z) (hB:B≤B'):SIn w B' v b z:=by
 obtain ⟨A,n,c,s,e0,e1,hs,r⟩:=h
 exact ⟨A,n,c,s,e0,e1,hs,r.1,r.2.1.wider hB,r.2.2⟩
theorem SIn.up (h:SIn w w.heap.size v b z) (hb:Below w.heap.size w w'):SIn w' w'.heap.size v b z:=(h.below hb).wider hb.size
theorem SIn.cut (h:SIn w B v b z):S2 v b:=by
 obtain ⟨A,n,c,s,e0,e1,_⟩:=h
 exact ⟨A,n,c,s,e0,e1⟩
theorem SOwn.cut (h:SOwn w lo hi E v b z):S2 v b:=by
 obtain ⟨s,e1,_,o⟩:=h
 obtain ⟨A,c,e0⟩:=o.form
 exact ⟨A,_,c,s,e0,e1⟩
theorem SOwn.below (h:SOwn w lo hi E v b z) (hb:Below B w w') (hh:hi≤B):SOwn w' lo hi E v b z:=by
 obtain ⟨s,e1,hs,o⟩:=h
 exact ⟨s,e1,hs,o.below hb hh⟩
theorem SOwn.aside (h:SOwn w lo hi E v b z) (ha:Aside lo' hi' w w') (hd:hi≤lo' ∨ hi'≤lo):SOwn w' lo hi E v b z:=by
 obtain ⟨s,e1,hs,o⟩:=h
 exact ⟨s,e1,hs,o.aside ha hd⟩
theorem SOwn.setv (h:SOwn w lo hi E v b z) (hg:g < lo ∨ hi≤g) (j:Nat) (u:Value):SOwn (w.setCell ⟨g,j,none⟩ u) lo hi E v b z :=
 h.aside ((Aside.refl w (lo:=g) (hi:=g+1)).setCell (Nat.le_refl _) (Nat.lt_succ_self _) u) (by omega)
theorem SOwn.in_ (h:SOwn w lo hi E v b z) {k:Nat} (f:Sz k z∧k≤1000000) (hh:hi≤B):SIn w B v b z:=by
 obtain ⟨s,e1,hs,o⟩:=h
 obtain ⟨A,c,rfl⟩:=o.form
 have:=f.1.len
 exact ⟨A,_,c,s,rfl,e1,hs,rfl,o.rdB hh,by omega,wfL_of (limbs_ok _)⟩
end
theorem PlusR.s {w w':World} {e:Ending} {z:Int} (h:PlusR w w' e z):SRes 3 w w' e z:=by
 obtain ⟨v,g,he,hs,o,hb⟩:=h
 exact ⟨v,.bool g,he,⟨g,rfl,hs,o⟩,hb⟩
theorem timesS (w:World) (B:Nat) (hB:B≤w.heap.size) {a0 a1:Value} {x:Int} (hx:SIn w B a0 a1 x) {b0 b1:Value} {y:Int} (hy:SIn w B b0 b1 y) (kx:Sz 900 x) (ky:Sz 900 y) :
 Calls Tryz.prog 119 #[.agg #[a0,a1],.agg #[b0,b1]] w fun e w'=>SRes 3 w w' e (x * y):=by
 obtain ⟨A,n,c,s,rfl,rfl,hs,r⟩:=hx
 obtain ⟨A',n',c',s',rfl,rfl,hs',r'⟩:=hy
 have h:=impl_times w B hB s A n c _ r (limbs_canon _) (by have:=kx.len;have:=r.1;omega) s' A' n' c' _ r' (limbs_canon _) (by have:=ky.len;have:=r'.1;omega)
 rw [zv_sgn hs,zv_sgn hs'] at h
 exact h.mono fun e w' h=>PlusR.s h
theorem minusS (w:World) (B:Nat) (hB:B≤w.heap.size) {a0 a1:Value} {x:Int} (hx:SIn w B a0 a1 x) {b0 b1:Value} {y:Int} (hy:SIn w B b0 b1 y) (kx:Sz 900 x) (ky:Sz 900 y) :
 Calls Tryz.prog 118 #[.agg #[a0,a1],.agg #[b0,b1]] w fun e w'=>SRes 3 w w' e (x - y):=by
 obtain ⟨A,n,c,s,rfl,rfl,hs,r⟩:=hx
 obtain ⟨A',n',c',s',rfl,rfl,hs',r'⟩:=hy
 have h:=impl_minus w B hB s A n c _ r (limbs_canon _) (by have:=kx.len;have:=r.1;omega) s' A' n' c' _ r' (limbs_canon _) (by have:=ky.len;have:=r'.1;omega)
 rw [zv_neg,zv_sgn hs,zv_sgn hs',←Int.sub_eq_add_neg] at h
 exact h.mono fun e w' h=>PlusR.s h
set_option maxHeartbeats 800000 in
theorem signS (w:World) (B:Nat) (hB:B≤w.heap.size) {a0 a1:Value} {x:Int} (hx:SIn w B a0 a1 x) :
 Calls Tryz.prog 140 #[.agg #[a0,a1]] w fun e w'=>e=.returned (.int .i64 (cmpV x 0))∧Below w.heap.size w w':=by
 obtain ⟨A,n,c,s,rfl,rfl,hs,r⟩:=hx
 have hb0:=below_new w (.cells #[.slice A n c,.bool s] 101)
 have k0:=Box.last w 101 #[.slice A n c,.bool s] rfl
 have HZ:=hide (impl_isZero (w.alloc (.cells #[.slice A n c,.bool s] 101)) A n c (limbs x.natAbs) r.1)
 by_cases h0:x=0
 · have HE:Hid (cmpV x 0=0):=by show _=_;rw [h0];rfl
   have e0:(limbs x.natAbs).isEmpty=true:=by rw [h0,show (0:Int).natAbs=0 from rfl,limbs_zero];rfl
   rw [e0] at HZ
   clear r hs h0
   go_enter Tryz.func140,Tryz.ntmps140
   go_wp2_with fail
   refine HZ.out.mono ?_
   rintro e w1 ⟨rfl,rfl⟩
   go_wp2_with fail
   go_ret
   exact ⟨by rw [HE.out];rfl,hb0⟩
 · have e0:(limbs x.natAbs).isEmpty=false:=by
    have:limbs x.natAbs ≠ []:=fun h=>by have:=limbs_nil.1 h;omega
    simpa using this
   rw [e0] at HZ
   have hs:=hs h0
   by_cases hn:x < 0
   · have HE:Hid (cmpV x 0 = -1):=by show _=_;unfold cmpV;rw [if_pos hn]
     rw [decide_eq_true hn] at hs
     subst hs
     clear r h0 hn
     go_enter Tryz.func140,Tryz.ntmps140
     go_wp2_with fail
     refine HZ.out.mono ?_
     rintro e w1 ⟨rfl,rfl⟩
     go_wp2_with fail
     go_ret
     exact ⟨by rw [HE.out];rfl,hb0⟩
   · have HE:Hid (cmpV x 0=1):=by show _=_;unfold cmpV;rw [if_neg hn,if_pos (by omega)]
     rw [decide_eq_false hn] at hs
     subst hs
     clear r h0 hn
     go_enter Tryz.func140,Tryz.ntmps140
     go_wp2_with fail
     refine HZ.out.mono ?_
     rintro e w1 ⟨rfl,rfl⟩
     go_wp2_with fail
     go_ret
     exact ⟨by rw [HE.out];rfl,hb0⟩
/-- a big integer, made a signed number -/
theorem signedS (w:World) (B:Nat) (hB:B≤w.heap.size) {v b:Value} {z:Int} (h:SIn w B v b z) :
 Calls Tryz.prog 76 #[.agg #[b,v]] w fun e w'=>∃ v0 v1,e=.returned (.agg #[v0,v1])∧SIn w' w'.heap.size v0 v1 z∧Below w.heap.size w w':=by
 obtain ⟨A,n,c,s,rfl,rfl,hs,r⟩:=h
 refine (impl_signedOf w s A n c).mono ?_
 rintro e w1 ⟨rfl,hb⟩
 exact ⟨_,_,rfl,(SIn.wider ⟨A,n,c,s,rfl,rfl,hs,r⟩ hB).up hb,hb⟩
/-! ### scaled points: two coordinates over one scale -/
def CIn (w:World) (B:Nat) (c0 c1 c2 c3 c4 c5:Value) (T:Int × Int × Int):Prop:=SIn w B c1 c0 T.1∧SIn w B c3 c2 T.2.1∧SIn w B c5 c4 T.2.2
def COwn (w:World) (lo hi:Nat) (E:TypeId) (c0 c1 c2 c3 c4 c5:Value) (T:Int × Int × Int):Prop:=SOwn w lo hi E c1 c0 T.1∧SOwn w lo hi E c3 c2 T.2.1∧SOwn w lo hi E c5 c4 T.2.2
def CRes (TI:TypeId) (w w':World) (e:Ending) (T:Int × Int × Int):Prop:=∃ c0 c1 c2 c3 c4 c5,e=.returned (.agg #[c0,c1,c2,c3,c4,c5])∧COwn w' w.heap.size w'.heap.size TI c0 c1 c2 c3 c4 c5 T∧Below w.heap.size w w'
def C6 (c0 c1 c2 c3 c4 c5:Value):Prop:=∃ b A n c yb yA yn yc zb zA zn zc,c0=.bool b∧c1=.slice A n c∧c2=.bool yb∧c3=.slice yA yn yc∧c4=.bool zb∧c5=.slice zA zn zc
def SzC (T:Int × Int × Int):Prop:=Sz 48 T.1∧Sz 48 T.2.1∧Sz 48 T.2.2
section
variable {w w':World} {B B' lo hi lo' hi' g:Nat} {E:TypeId} {c0 c1 c2 c3 c4 c5:Value} {T:Int × Int × Int}
theorem CIn.below (h:CIn w B c0 c1 c2 c3 c4 c5 T) (hb:Below B w w'):CIn w' B c0 c1 c2 c3 c4 c5 T:=⟨h.1.below hb,h.2.1.below hb,h.2.2.below hb⟩
theorem CIn.wider (h:CIn w B c0 c1 c2 c3 c4 c5 T) (hB:B≤B'):CIn w B' c0 c1 c2 c3 c4 c5 T:=⟨h.1.wider hB,h.2.1.wider hB,h.2.2.wider hB⟩
theorem CIn.up (h:CIn w w.heap.size c0 c1 c2 c3 c4 c5 T) (hb:Below w.heap.size w w'):CIn w' w'.heap.size c0 c1 c2 c3 c4 c5 T:=(h.below hb).wider hb.size
theorem CIn.s1 (h:CIn w B c0 c1 c2 c3 c4 c5 T):SIn w B c1 c0 T.1:=h.1
theorem CIn.s2 (h:CIn w B c0 c1 c2 c3 c4 c5 T):SIn w B c3 c2 T.2.1:=h.2.1
theorem CIn.s3 (h:CIn w B c0 c1 c2 c3 c4 c5 T):SIn w B c5 c4 T.2.2:=h.2.2
theorem CIn.cut (h:CIn w B c0 c1 c2 c3 c4 c5 T):C6 c0 c1 c2 c3 c4 c5:=by
 obtain ⟨A,n,c,b,e0,e1⟩:=h.1.cut
 obtain ⟨yA,yn,yc,yb,e2,e3⟩:=h.2.1.cut
 obtain ⟨zA,zn,zc,zb,e4,e5⟩:=h.2.2.cut
 exact ⟨b,A,n,c,yb,yA,yn,yc,zb,zA,zn,zc,e1,e0,e3,e2,e5,e4⟩
theorem COwn.below (h:COwn w lo hi E c0 c1 c2 c3 c4 c5 T) (hb:Below B w w') (hh:hi≤B):COwn w' lo hi E c0 c1 c2 c3 c4 c5 T:=⟨h.1.below hb hh,h.2.1.below hb hh,h.2.2.below hb hh⟩
theorem COwn.setv (h:COwn w lo hi E c0 c1 c2 c3 c4 c5 T) (hg:g < lo ∨ hi≤g) (j:Nat) (u:Value):COwn (w.setCell ⟨g,j,none⟩ u) lo hi E c0 c1 c2 c3 c4 c5 T:=⟨h.1.setv hg j u,h.2.1.setv hg j u,h.2.2.setv hg j u⟩
theorem COwn.in_ (h:COwn w lo hi E c0 c1 c2 c3 c4 c5 T) (f:SzC T) (hh:hi≤B):CIn w B c0 c1 c2 c3 c4 c5 T:=⟨h.1.in_ ⟨f.1,by omega⟩ hh,h.2.1.in_ ⟨f.2.1,by omega⟩ hh,h.2.2.in_ ⟨f.2.2,by omega⟩ hh⟩
theorem COwn.cut (h:COwn w lo hi E c0 c1 c2 c3 c4 c5 T):C6 c0 c1 c2 c3 c4 c5:=by
 obtain ⟨A,n,c,b,e0,e1⟩:=h.1.cut
 obtain ⟨yA,yn,yc,yb,e2,e3⟩:=h.2.1.cut
 obtain ⟨zA,zn,zc,zb,e4,e5⟩:=h.2.2.cut
 exact ⟨b,A,n,c,yb,yA,yn,yc,zb,zA,zn,zc,e1,e0,e3,e2,e5,e4⟩
end
/-- a point over one scale -/
def scP (P:PQ):Int × Int × Int:=(zv P.1.1.1 P.1.1.2 * natV P.2.2,zv P.2.1.1 P.2.1.2 * natV P.1.2,(natV P.1.2:Int) * natV P.2.2)
theorem scP_sz {P:PQ} (h:ratQ P.1=true) (k:ratQ P.2=true):SzC (scP P):=by
 have n1:=natV_24 (bigB_nat (ratB_big h)) (ratB_short h).1
 have n2:=natV_24 (bigB_nat (ratB_big k)) (ratB_short k).1
 have d1:=natV_24 (ratB_den h) (ratB_short h).2
 have d2:=natV_24 (ratB_den k) (ratB_short k).2
 have z1:=zv_abs (s:=P.1.1.1) (bigB_nat (ratB_big h))
 have z2:=zv_abs (s:=P.2.1.1) (bigB_nat (ratB_big k))
 have s1:Sz 24 (zv P.1.1.1 P.1.1.2):=by show _ < _;rw [z1];exact n1
 have s2:Sz 24 (zv P.2.1.1 P.2.1.2):=by show _ < _;rw [z2];exact n2
 have s3:Sz 24 (natV P.1.2:Int):=d1
 have s4:Sz 24 (natV P.2.2:Int):=d2
 exact ⟨s1.mul s4,s2.mul s3,s3.mul s4⟩
theorem cap_sgn {z:Int} (h:z.natAbs < 1000000000 ^ 60):SgnOk (capZ z).1 z:=fun _=>capZ_sign z h
theorem scaledC (w:World) (B:Nat) (hB:B≤w.heap.size) {p0 p1 p2 p3 p4 p5:Value} {P:PQ} (hp:PIn w B p0 p1 p2 p3 p4 p5 P) (h:ratQ P.1=true) (k:ratQ P.2=true) :
 Calls Tryz.prog 46 #[.agg #[p0,p1,p2,p3,p4,p5]] w fun e w'=>CRes 3 w w' e (scP P):=by
 obtain ⟨⟨A,n,c,D,m,q,rfl,rfl,rfl,r1,r2,_,_⟩,⟨A',n',c',D',m',q',rfl,rfl,rfl,r1',r2',_,_⟩⟩:=hp
 have hc:=impl_scaledOf w B hB P.1.1.1 A n c P.1.1.2 r1 D m q P.1.2 r2 P.2.1.1 A' n' c' P.2.1.2 r1' D' m' q' P.2.2 r2'
 have e1:=num_mulZ (ratB_big h) (ratB_den k)
 have e2:=num_mulZ (ratB_big k) (ratB_den h)
 have l1:=lt60 (numB h k)
 have l2:=lt60 (numB k h)
 have l3:=lt60 (denB h k)
 obtain ⟨e3,_,_⟩:=den_mulL (ratB_den h) (ratB_den k) l3
 rw [e1,e2,e3] at hc
 have v1:val P.2.2=(natV P.2.2:Int):=zval (ratB_den k)
 have v2:val P.1.2=(natV P.1.2:Int):=zval (ratB_den h)
 rw [v1] at hc l1
 rw [v2] at hc l2
 refine hc.mono ?_
 rintro e w1 ⟨x1,x2,x3,rfl,o1,o2,o3,hb⟩
 have c1:(capZ (zv P.1.1.1 P.1.1.2 * (natV P.2.2:Int))).2=limbs (zv P.1.1.1 P.1.1.2 * (natV P.2.2:Int)).natAbs:=capL_of l1
 have c2:(capZ (zv P.2.1.1 P.2.1.2 * (natV P.1.2:Int))).2=limbs (zv P.2.1.1 P.2.1.2 * (natV P.1.2:Int)).natAbs:=capL_of l2
 rw [c1] at o1
 rw [c2] at o2
 refine ⟨_,x1,_,x2,_,x3,rfl,⟨⟨_,rfl,cap_sgn l1,o1⟩,⟨_,rfl,cap_sgn l2,o2⟩,⟨false,rfl,?_,?_⟩⟩,hb⟩
 · intro _
   exact (decide_eq_false (by show ¬ (natV P.1.2:Int) * natV P.2.2 < 0;rw [←Int.natCast_mul];omega)).symm
 · show Own w1 _ _ _ x3 (limbs ((natV P.1.2:Int) * natV P.2.2).natAbs).length (iv (limbs ((natV P.1.2:Int) * natV P.2.2).natAbs))
   rw [←Int.natCast_mul,Int.natAbs_natCast]
   exact o3
end Go.Proofs.YtafhhemojdblpaaGreat
