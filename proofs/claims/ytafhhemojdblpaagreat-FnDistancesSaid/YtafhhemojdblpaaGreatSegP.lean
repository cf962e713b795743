/-
  Segments: what the functions on fractions answer (inner product, square of the distance from a segment); the contracts on whole fractions that PtQ lacks.
-/
import Derived.Test.YtafhhemojdblpaaGreatQR
import Derived.Test.YtafhhemojdblpaaGreatPV
namespace Go.Proofs.YtafhhemojdblpaaGreat
open Go.RowKit
set_option linter.unusedVariables false
def minQ (Z Y:RQ):RQ:=minR Z.1.1 Z.1.2 Z.2 Y.1.1 Y.1.2 Y.2
def maxQ (Z Y:RQ):RQ:=maxR Z.1.1 Z.1.2 Z.2 Y.1.1 Y.1.2 Y.2
def innP (P Q R:PQ):RQ:=addQ (mulQ (subQ Q.1 P.1) (subQ R.1 P.1)) (mulQ (subQ Q.2 P.2) (subQ R.2 P.2))
def partQ (t:RQ):RQ:=maxQ (intQ 0) (minQ t (intQ 1))
def wayP (A B:PQ) (t:RQ):PQ:=(addQ A.1 (mulQ t (subQ B.1 A.1)),addQ A.2 (mulQ t (subQ B.2 A.2)))
def nearP (P A B:PQ):PQ:=wayP A B (partQ (divQ (innP A P B) (distP A B)))
def sqP (P A B:PQ):RQ:=if sameP A B then distP P A else distP P (nearP P A B)
theorem ratB_wf {s:Bool} {xs ds:List Int} (h:ratB s xs ds=true):QFit ((s,xs),ds):=by
 have h1:=ratB_short h
 have h2:=bigB_nat (ratB_big h)
 have h3:=ratB_den h
 exact ⟨by show xs.length≤_;omega,by show ds.length≤_;omega,wfL_of ((natB_iff xs).1 h2).1.1,wfL_of ((natB_iff ds).1 h3).1.1⟩
theorem minQ_fit (Z Y:RQ):QFit (minQ Z Y):=by
 unfold minQ minR;split
 · rename_i h
   simp only [Bool.and_eq_true] at h
   exact fit_ite (ratB_wf h.1) (ratB_wf h.2)
 · exact noR_fit
theorem maxQ_fit (Z Y:RQ):QFit (maxQ Z Y):=by
 unfold maxQ maxR;split
 · rename_i h
   simp only [Bool.and_eq_true] at h
   exact fit_ite (ratB_wf h.1) (ratB_wf h.2)
 · exact noR_fit
theorem innP_fit (P Q R:PQ):QFit (innP P Q R):=addQ_fit _ _
theorem partQ_fit (t:RQ):QFit (partQ t):=maxQ_fit _ _
theorem sqP_fit (P A B:PQ):QFit (sqP P A B):=by unfold sqP;split <;> exact distP_fit _ _
/-- a fraction of one's own whose lists need not lie apart -/
def ROwn (w:World) (lo hi:Nat) (E:TypeId) (v0 v1 v2:Value) (Z:RQ):Prop:=v0=.bool Z.1.1∧Own w lo hi E v1 Z.1.2.length (iv Z.1.2)∧Own w lo hi E v2 Z.2.length (iv Z.2)
def RRes (TI:TypeId) (w w':World) (e:Ending) (Z:RQ):Prop :=
 ∃ v0 v1 v2,e=.returned (.agg #[v0,v1,v2])∧ROwn w' w.heap.size w'.heap.size TI v0 v1 v2 Z∧Below w.heap.size w w'
section
variable {w w':World} {B lo hi lo' hi' g:Nat} {E:TypeId} {v0 v1 v2:Value} {Z:RQ}
theorem ROwn.below (h:ROwn w lo hi E v0 v1 v2 Z) (hb:Below B w w') (hh:hi≤B):ROwn w' lo hi E v0 v1 v2 Z:=⟨h.1,h.2.1.below hb hh,h.2.2.below hb hh⟩
theorem ROwn.setv (h:ROwn w lo hi E v0 v1 v2 Z) (hg:g < lo ∨ hi≤g) (j:Nat) (u:Value):ROwn (w.setCell ⟨g,j,none⟩ u) lo hi E v0 v1 v2 Z:=⟨h.1,h.2.1.setv hg j u,h.2.2.setv hg j u⟩
theorem ROwn.wider (h:ROwn w lo hi E v0 v1 v2 Z) (hl:lo'≤lo) (hh:hi≤hi'):ROwn w lo' hi' E v0 v1 v2 Z:=⟨h.1,h.2.1.wider hl hh,h.2.2.wider hl hh⟩
theorem ROwn.in_ (h:ROwn w lo hi E v0 v1 v2 Z) (f:QFit Z) (hh:hi≤B):QIn w B v0 v1 v2 Z:=by
 obtain ⟨e0,o1,o2⟩:=h
 obtain ⟨A,x,rfl⟩:=o1.form
 obtain ⟨D,y,rfl⟩:=o2.form
 exact ⟨A,_,x,D,_,y,e0,rfl,rfl,⟨rfl,o1.rdB hh,f.1,f.2.2.1⟩,⟨rfl,o2.rdB hh,f.2.1,f.2.2.2⟩,o1.cap,o2.cap⟩
theorem ROwn.cut (h:ROwn w lo hi E v0 v1 v2 Z):Q3 v0 v1 v2:=by
 obtain ⟨e0,o1,o2⟩:=h
 obtain ⟨A,x,rfl⟩:=o1.form
 obtain ⟨D,y,rfl⟩:=o2.form
 exact ⟨_,A,_,x,D,_,y,e0,rfl,rfl⟩
theorem PIn.setv {w:World} {g l1 h1 l2 h2 B:Nat} {E:TypeId} {v0 v1 v2 v3 v4 v5:Value} {P:PQ} (o1:QOwn w l1 h1 E v0 v1 v2 P.1) (o2:QOwn w l2 h2 E v3 v4 v5 P.2) (f:PFit P) (d1:g < l1 ∨ h1≤g) (d2:g < l2 ∨ h2≤g) (b1:h1≤B) (b2:h2≤B) (x0 x1 x2 x3 x4 x5:Value) :
 PIn ((((((w.setCell ⟨g,0,none⟩ x0).setCell ⟨g,1,none⟩ x1).setCell ⟨g,2,none⟩ x2).setCell ⟨g,3,none⟩ x3).setCell ⟨g,4,none⟩ x4).setCell ⟨g,5,none⟩ x5) B v0 v1 v2 v3 v4 v5 P :=
 ⟨((((((o1.setv d1 0 _).setv d1 1 _).setv d1 2 _).setv d1 3 _).setv d1 4 _).setv d1 5 _).in_ f.1 b1,((((((o2.setv d2 0 _).setv d2 1 _).setv d2 2 _).setv d2 3 _).setv d2 4 _).setv d2 5 _).in_ f.2 b2⟩
/-- a point's variable that is only read -/
def VarJ (w wx:World) (sx:Value) (P:PQ) (TB TI:TypeId):Prop :=
 ∃ g v0 v1 v2 v3 v4 v5,sx=.pointer (some ⟨g,0,none⟩)∧Box wx g TB #[v0,v1,v2,v3,v4,v5]∧PIn wx wx.heap.size v0 v1 v2 v3 v4 v5 P∧w.heap.size≤g∧Below w.heap.size w wx
theorem varj_last {w w3:World} {v0 v1 v2 v3 v4 v5:Value} {X Y:RQ} {TB TI:TypeId} (hb:Below w.heap.size w w3) (q1:QIn w3 w3.heap.size v0 v1 v2 X) (q2:QIn w3 w3.heap.size v3 v4 v5 Y) :
 VarJ w (w3.alloc (.cells #[v0,v1,v2,v3,v4,v5] TB)) (.pointer (some ⟨w3.heap.size,0,none⟩)) (X,Y) TB TI :=
 ⟨w3.heap.size,v0,v1,v2,v3,v4,v5,rfl,Box.last _ _ _ rfl,⟨q1.up (below_new _ _),q2.up (below_new _ _)⟩,hb.size,below_alloc hb _⟩
theorem varj_set {w w3:World} {g:Nat} {x0 x1 x2 x3 x4 x5 v0 v1 v2 v3 v4 v5:Value} {X Y:RQ} {TB TI:TypeId} {l1 h1 l2 h2:Nat} (k:Box w3 g TB #[x0,x1,x2,x3,x4,x5]) (hb:Below w.heap.size w w3) (o1:QOwn w3 l1 h1 TI v0 v1 v2 X) (o2:QOwn w3 l2 h2 TI v3 v4 v5 Y) (q1:QIn w3 w3.heap.size v0 v1 v2 X) (q2:QIn w3 w3.heap.size v3 v4 v5 Y) (hg:w.heap.size≤g) (d1:(g < l1 ∨ h1≤g)∧h1≤w3.heap.size) (d2:(g < l2 ∨ h2≤g)∧h2≤w3.heap.size) :
 VarJ w ((((((w3.setCell ⟨g,0,none⟩ v0).setCell ⟨g,1,none⟩ v1).setCell ⟨g,2,none⟩ v2).setCell ⟨g,3,none⟩ v3).setCell ⟨g,4,none⟩ v4).setCell ⟨g,5,none⟩ v5) (.pointer (some ⟨g,0,none⟩)) (X,Y) TB TI :=
 ⟨g,v0,v1,v2,v3,v4,v5,rfl,(((((k.set 0 _).set 1 _).set 2 _).set 3 _).set 4 _).set 5 _,PIn.setv (P:=(X,Y)) o1 o2 ⟨q1.fit,q2.fit⟩ d1.1 d2.1 (by simp only [setCell_size];exact d1.2) (by simp only [setCell_size];exact d2.2) _ _ _ _ _ _,hg,below_set6 hb hg _ _ _ _ _ _⟩
theorem QOwn.r (h:QOwn w lo hi E v0 v1 v2 Z):ROwn w lo hi E v0 v1 v2 Z:=by
 obtain ⟨e0,l1,h1,l2,h2,o1,o2,a,b,c,d,_⟩:=h
 exact ⟨e0,o1.wider a c,o2.wider b d⟩
end
theorem impl_divQ (w:World) (B:Nat) (hB:B≤w.heap.size) {v0 v1 v2:Value} {Z:RQ} (h:QIn w B v0 v1 v2 Z) {u0 u1 u2:Value} {Y:RQ} (h':QIn w B u0 u1 u2 Y) :
 Calls Tryz.prog 49 #[.agg #[v0,v1,v2],.agg #[u0,u1,u2]] w fun e w'=>QRes 3 w w' e (divQ Z Y):=by
 obtain ⟨A,n,c,D,m,k,rfl,rfl,rfl,r1,r2,c1,c2⟩:=h
 obtain ⟨A',n',c',D',m',k',rfl,rfl,rfl,r1',r2',c1',c2'⟩:=h'
 exact (impl_RatDiv w B hB Z.1.1 A n c Z.1.2 r1 D m k Z.2 r2 Y.1.1 A' n' c' Y.1.2 r1' D' m' k' Y.2 r2').mono fun e w' h=>QRes.of h
theorem impl_minQ (w:World) (B:Nat) (hB:B≤w.heap.size) {v0 v1 v2:Value} {Z:RQ} (h:QIn w B v0 v1 v2 Z) {u0 u1 u2:Value} {Y:RQ} (h':QIn w B u0 u1 u2 Y) :
 Calls Tryz.prog 31 #[.agg #[v0,v1,v2],.agg #[u0,u1,u2]] w fun e w'=>QRes 3 w w' e (minQ Z Y):=by
 obtain ⟨A,n,c,D,m,k,rfl,rfl,rfl,r1,r2,c1,c2⟩:=h
 obtain ⟨A',n',c',D',m',k',rfl,rfl,rfl,r1',r2',c1',c2'⟩:=h'
 exact (impl_RatMin w B hB Z.1.1 A n c Z.1.2 r1 D m k Z.2 r2 Y.1.1 A' n' c' Y.1.2 r1' D' m' k' Y.2 r2').mono fun e w' h=>QRes.of h
theorem impl_maxQ (w:World) (B:Nat) (hB:B≤w.heap.size) {v0 v1 v2:Value} {Z:RQ} (h:QIn w B v0 v1 v2 Z) {u0 u1 u2:Value} {Y:RQ} (h':QIn w B u0 u1 u2 Y) :
 Calls Tryz.prog 50 #[.agg #[v0,v1,v2],.agg #[u0,u1,u2]] w fun e w'=>QRes 3 w w' e (maxQ Z Y):=by
 obtain ⟨A,n,c,D,m,k,rfl,rfl,rfl,r1,r2,c1,c2⟩:=h
 obtain ⟨A',n',c',D',m',k',rfl,rfl,rfl,r1',r2',c1',c2'⟩:=h'
 exact (impl_RatMax w B hB Z.1.1 A n c Z.1.2 r1 D m k Z.2 r2 Y.1.1 A' n' c' Y.1.2 r1' D' m' k' Y.2 r2').mono fun e w' h=>QRes.of h
end Go.Proofs.YtafhhemojdblpaaGreat
