/-
  The texts HulP, VecM, put together; each has its own heading below. No condition of ours.
-/
import Derived.Test.YtafhhemojdblpaaGreatRows
import Derived.Test.YtafhhemojdblpaaGreatOwn
/-
  Convex hulls in the plane of whole numbers, by chains of corners: a chain of ascending points has all of them on its left, its corners turn left, no other path along the points has a greater sum of products; a hull's corners, the hull of a hull, areas. Nothing of the program stands here.
-/
namespace Go.Proofs.YtafhhemojdblpaaGreat
abbrev V2:=Int × Int
/-- twice the area of a triangle -/
def tn (a b c:V2):Int:=(b.1 - a.1) * (c.2 - a.2) - (b.2 - a.2) * (c.1 - a.1)
def crs (u v:V2):Int:=u.1 * v.2 - u.2 * v.1
def lt2 (a b:V2):Prop:=a.1 < b.1 ∨ a.1=b.1∧a.2 < b.2
instance (a b:V2):Decidable (lt2 a b):=inferInstanceAs (Decidable (_ ∨ _))
def ps2 (u:V2):Prop:=0 < u.1 ∨ 0=u.1∧0 < u.2
def sb (a b:V2):V2:=(b.1 - a.1,b.2 - a.2)
theorem ps_sb {a b:V2} (h:lt2 a b):ps2 (sb a b):=by
 unfold lt2 at h;unfold ps2 sb;simp only;omega
theorem lt_irrefl (a:V2):¬ lt2 a a:=by unfold lt2;omega
theorem lt_trans {a b c:V2} (h:lt2 a b) (k:lt2 b c):lt2 a c:=by unfold lt2 at *;omega
theorem lt_asymm {a b:V2} (h:lt2 a b) (k:lt2 b a):False:=by unfold lt2 at *;omega
theorem lt_tri (a b:V2):lt2 a b ∨ a=b ∨ lt2 b a:=by
 unfold lt2
 by_cases h:a=b
 · exact .inr (.inl h)
 · have:¬ (a.1=b.1∧a.2=b.2):=fun ⟨x,y⟩=>h (Prod.ext x y)
   omega
theorem mpos {a b:Int} (ha:0 < a) (h:0≤a * b):0≤b:=by
 rcases Int.lt_or_le b 0 with k | k
 · have:=Int.mul_neg_of_pos_of_neg ha k;omega
 · exact k
theorem mpos' {a b:Int} (ha:0 < a) (h:0 < a * b):0 < b:=by
 rcases Int.lt_or_le 0 b with k | k
 · exact k
 · have:=Int.mul_nonpos_of_nonneg_of_nonpos (Int.le_of_lt ha) k;omega
theorem crs_id1 (u v w:V2):v.1 * crs u w=u.1 * crs v w+w.1 * crs u v:=by unfold crs;grind
theorem ps_nn {u:V2} (h:ps2 u):0≤u.1:=by unfold ps2 at h;omega
/-- slopes in a half plane are ordered -/
theorem tr0 {u v w:V2} (hu:ps2 u) (hv:ps2 v) (hw:ps2 w) (h:0≤crs u v) (k:0≤crs v w):0≤crs u w:=by
 rcases hv with v1 | ⟨v1,v2⟩
 · have i:=crs_id1 u v w
   have a:=Int.mul_nonneg (ps_nn hu) k
   have b:=Int.mul_nonneg (ps_nn hw) h
   exact mpos v1 (by omega)
 · have w1:w.1=0:=by
    rcases hw with w1 | ⟨w1,_⟩
    · have:=Int.mul_pos v2 w1
      unfold crs at k;rw [←v1] at k;simp at k;omega
    · exact w1.symm
   have w2:0 < w.2:=by unfold ps2 at hw;omega
   unfold crs
   rw [w1,Int.mul_zero,Int.sub_zero]
   exact Int.mul_nonneg (ps_nn hu) (Int.le_of_lt w2)
theorem tr1 {u v w:V2} (hu:ps2 u) (hv:ps2 v) (hw:ps2 w) (h:0 < crs u v) (k:0≤crs v w):0 < crs u w:=by
 rcases hv with v1 | ⟨v1,v2⟩
 · rcases hw with w1 | ⟨w1,w2⟩
   · have i:=crs_id1 u v w
     have a:=Int.mul_nonneg (ps_nn hu) k
     have b:=Int.mul_pos w1 h
     exact mpos' v1 (by omega)
   · unfold crs at h ⊢
     rw [←w1,Int.mul_zero,Int.sub_zero]
     rcases hu with u1 | ⟨u1,u2⟩
     · exact Int.mul_pos u1 w2
     · have:=Int.mul_pos u2 v1
       rw [←u1,Int.zero_mul] at h;omega
 · have w1:w.1=0:=by
    rcases hw with w1 | ⟨w1,_⟩
    · have:=Int.mul_pos v2 w1
      unfold crs at k;rw [←v1] at k;simp at k;omega
    · exact w1.symm
   have w2:0 < w.2:=by unfold ps2 at hw;omega
   unfold crs at h ⊢
   rw [w1,Int.mul_zero,Int.sub_zero]
   rw [←v1,Int.mul_zero,Int.sub_zero] at h
   rcases hu with u1 | ⟨u1,u2⟩
   · exact Int.mul_pos u1 w2
   · rw [←u1,Int.zero_mul] at h;omega
theorem tr2 {u v w:V2} (hu:ps2 u) (hv:ps2 v) (hw:ps2 w) (h:0≤crs u v) (k:0 < crs v w):0 < crs u w:=by
 rcases hv with v1 | ⟨v1,v2⟩
 · rcases hu with u1 | ⟨u1,u2⟩
   · have i:=crs_id1 u v w
     have a:=Int.mul_pos u1 k
     have b:=Int.mul_nonneg (ps_nn hw) h
     exact mpos' v1 (by omega)
   · exfalso
     have:=Int.mul_pos u2 v1
     unfold crs at h;rw [←u1,Int.zero_mul] at h;omega
 · exfalso
   have:=Int.mul_nonneg (Int.le_of_lt v2) (ps_nn hw)
   unfold crs at k;rw [←v1,Int.zero_mul] at k;omega
theorem tn_crs (a b c:V2):tn a b c=crs (sb a b) (sb b c):=by unfold tn crs sb;grind
/-- x < b < p, a < b: x left of a, b, and p too: x is left of b, p -/
theorem back {a b p x:V2} (h1:lt2 a b) (h2:lt2 b p) (h3:lt2 x b) (h:0≤tn a b x) (k:0 < tn a b p):0≤tn b p x:=by
 rw [tn_crs] at k
 have e:tn a b x=crs (sb x b) (sb a b):=by unfold tn crs sb;grind
 rw [e] at h
 have:=tr1 (v:=sb a b) (ps_sb h2) (ps_sb h1) (ps_sb h3)
 have t:=tr2 (ps_sb h3) (ps_sb h1) (ps_sb h2) h k
 have e2:tn b p x=crs (sb x b) (sb b p):=by unfold tn crs sb;grind
 omega
/-- a chain is a stack: the last corner first -/
def push:List V2 → V2 → List V2
 | b :: a :: s,p=>if tn a b p≤0 then push (a :: s) p else p :: b :: a :: s
 | [b],p=>[p,b]
 | [],p=>[p]
def chain (xs:List V2):List V2:=xs.foldl push []
def conv:List V2 → Prop
 | c :: b :: a :: s=>0 < tn a b c∧conv (b :: a :: s)
 | _=>True
theorem push_head (T:List V2) (p:V2):∃ r,push T p=p :: r∧∀ x ∈ r,x ∈ T:=by
 induction T with
 | nil=>exact ⟨[],rfl,by simp⟩
 | cons b T ih =>
   match T,ih with
   | [],_=>exact ⟨[b],rfl,by simp⟩
   | a :: s,ih =>
     unfold push
     split
     · obtain ⟨r,h,k⟩:=ih
       exact ⟨r,h,fun x hx=>List.mem_cons_of_mem _ (k x hx)⟩
     · exact ⟨b :: a :: s,rfl,fun x hx=>hx⟩
def asc (xs:List V2):Prop:=xs.Pairwise lt2
theorem chain_snoc (xs:List V2) (p:V2):chain (xs ++ [p])=push (chain xs) p:=by simp [chain]
theorem push_ne (T:List V2) (p:V2):push T p ≠ []:=by obtain ⟨r,h,_⟩:=push_head T p;rw [h];simp
theorem snoc_ind {α:Type} {m:List α → Prop} (h0:m []) (h1:∀ xs p,m xs → m (xs ++ [p])) (xs:List α):m xs:=by
 have:∀ ys:List α,m ys.reverse:=by
  intro ys
  induction ys with
  | nil=>exact h0
  | cons a ys ih=>rw [List.reverse_cons];exact h1 _ _ ih
 simpa using this xs.reverse
def outL (A B:List V2):List V2:=A.tail.reverse ++ B.tail.reverse
theorem asc_nodup {T:List V2} (h:asc T):T.Nodup:=h.imp fun {a b} k e=>by subst e;exact lt_irrefl _ k
theorem nodup_le {l:List V2}:∀ {X:List V2},l.Nodup → (∀ x ∈ l,x ∈ X) → l.length≤X.length:=by
 induction l with
 | nil=>intro X _ _;simp
 | cons a l ih =>
   intro X hn hs
   have hn':=List.nodup_cons.1 hn
   have:=ih (X:=X.erase a) hn'.2 (fun x hx=>(List.mem_erase_of_ne (fun e=>hn'.1 (by rw [←e];exact hx))).2 (hs x (List.mem_cons_of_mem _ hx)))
   have ha:=hs a (by simp)
   rw [List.length_erase_of_mem ha] at this
   have:=List.length_pos_of_mem ha
   simp;omega
def hiC (xs:List V2):List V2:=chain xs.reverse
theorem asc_unique:∀ {xs ys:List V2},asc xs → asc ys → (∀ a,a ∈ xs ↔ a ∈ ys) → xs=ys:=by
 intro xs
 induction xs with
 | nil =>
   intro ys _ _ h
   match ys,h with
   | [],_=>rfl
   | b :: ys,h=>exact absurd ((h b).2 (by simp)) (by simp)
 | cons a xs ih =>
   intro ys hx hy h
   match ys,hy,h with
   | [],_,h=>exact absurd ((h a).1 (by simp)) (by simp)
   | b :: ys,hy,h =>
     have hx':=List.pairwise_cons.1 hx
     have hy':=List.pairwise_cons.1 hy
     have e:a=b:=by
      rcases List.mem_cons.1 ((h a).1 (by simp)) with k | k
      · exact k
      · rcases List.mem_cons.1 ((h b).2 (by simp)) with k2 | k2
        · exact k2.symm
        · exact (lt_asymm (hy'.1 a k) (hx'.1 b k2)).elim
     subst e
     rw [ih hx'.2 hy'.2 fun q=>⟨fun hq=>(List.mem_cons.1 ((h q).1 (List.mem_cons_of_mem _ hq))).resolve_left fun k=>lt_irrefl _ (k ▸ hx'.1 q hq),fun hq=>(List.mem_cons.1 ((h q).2 (List.mem_cons_of_mem _ hq))).resolve_left fun k=>lt_irrefl _ (k ▸ hy'.1 q hq)⟩]
end Go.Proofs.YtafhhemojdblpaaGreat
/-
  Lists of vectors in memory: two cells an element. What is readable, what is the call's own.
-/
namespace Go.Proofs.YtafhhemojdblpaaGreat
open Go.RowKit
set_option linter.unusedVariables false
theorem Tryz.infoVec:(Tryz.prog.info? 44).map (fun i=>(i.zero,i.size,i.bytes))=some (some (.agg #[.int .i64 0,.int .i64 0]),2,16):=by kernel_rfl
theorem Tryz.sliceVec:SliceOf Tryz.prog 31 44 2 16:=by
 obtain ⟨i0,hi0,hz0,hz1,hz2⟩:=info_parts Tryz.infoVec
 exact ⟨Tryz.underlying31,i0,_,hi0,hz0,hz1,hz2,rfl,by omega⟩
/-- the vectors of a list, as cells -/
def fl (vs:List V2):List Value:=vs.flatMap fun v=>[.int .i64 v.1,.int .i64 v.2]
theorem fl_cons (v:V2) (vs:List V2):fl (v :: vs)=.int .i64 v.1 :: .int .i64 v.2 :: fl vs:=rfl
theorem fl_append (xs ys:List V2):fl (xs ++ ys)=fl xs ++ fl ys:=by simp [fl]
theorem fl_len (vs:List V2):(fl vs).length=vs.length * 2:=by
 induction vs with
 | nil=>rfl
 | cons v vs ih=>rw [fl_cons];simp only [List.length_cons,ih];omega
theorem fl_at {vs:List V2} {k:Nat} (h:k < vs.length):(fl vs)[k * 2]?=some (.int .i64 vs[k].1)∧(fl vs)[k * 2+1]?=some (.int .i64 vs[k].2):=by
 induction vs generalizing k with
 | nil=>simp at h
 | cons v vs ih =>
   rw [fl_cons]
   match k,h with
   | 0,_=>exact ⟨rfl,rfl⟩
   | k+1,h =>
     have:=ih (k:=k) (by simpa using h)
     rw [Nat.add_mul,Nat.one_mul]
     simpa using this
theorem fl_take (vs:List V2) (k:Nat):fl (vs.take k)=(fl vs).take (k * 2):=by
 induction vs generalizing k with
 | nil=>simp [fl]
 | cons v vs ih =>
   match k with
   | 0=>simp [fl]
   | k+1=>rw [List.take_succ_cons,fl_cons,fl_cons,Nat.add_mul,Nat.one_mul,ih];rfl
theorem fl_drop (vs:List V2) (k:Nat):fl (vs.drop k)=(fl vs).drop (k * 2):=by
 induction vs generalizing k with
 | nil=>simp [fl]
 | cons v vs ih =>
   match k with
   | 0=>simp
   | k+1=>rw [List.drop_succ_cons,fl_cons,Nat.add_mul,Nat.one_mul,ih];rfl
theorem fl_one (vs:List V2):∀ u ∈ fl vs,u.oneCell'=true:=fun u hu=>by
 simp only [fl,List.mem_flatMap] at hu
 obtain ⟨v,_,hu⟩:=hu
 simp at hu
 rcases hu with rfl | rfl <;> rfl
def wfV (vs:List V2):Prop:=∀ v ∈ vs,(Lit.int .i64 v.1).wf=true∧(Lit.int .i64 v.2).wf=true
theorem wfV_at {vs:List V2} (h:wfV vs) {k:Nat} (hk:k < vs.length):(Lit.int .i64 vs[k].1).wf=true∧(Lit.int .i64 vs[k].2).wf=true:=h _ (List.getElem_mem hk)
/-- a list of vectors that can be read below block B -/
def RdV (w:World) (B:Nat) (A:Option Addr) (n:Nat) (vs:List V2):Prop:=vs.length=n∧Rd w B A (fl vs)∧n≤1048576∧wfV vs
theorem RdV.below {w w':World} {B:Nat} {A:Option Addr} {n:Nat} {vs:List V2} (h:RdV w B A n vs) (hb:Below B w w'):RdV w' B A n vs:=⟨h.1,h.2.1.below hb,h.2.2⟩
theorem RdV.wider {w:World} {B B':Nat} {A:Option Addr} {n:Nat} {vs:List V2} (h:RdV w B A n vs) (hB:B≤B'):RdV w B' A n vs:=⟨h.1,h.2.1.wider hB,h.2.2⟩
theorem add_next (ad:Addr) (k:Nat):ad.add (k+1)=⟨(ad.add k).block,(ad.add k).off+1,none⟩:=by
 unfold Addr.add
 rw [if_neg (by omega)]
 split
 · subst_vars;rfl
 · simp;omega
theorem keep1 {w w':World} {B:Nat} {ad:Addr} {v:Value} (h:Below B w w') (hb:ad.block < B) (hc:w.cell? ad=some v):w'.cell? ad=some v:=(h.cell hb).trans hc
theorem keep2 {w w':World} {B:Nat} {ad:Addr} {v:Value} (h:Below B w w') (hb:ad.block < B) (hc:w.cell? ⟨ad.block,ad.off+1,none⟩=some v):w'.cell? ⟨ad.block,ad.off+1,none⟩=some v:=(h.cell (p:=⟨ad.block,ad.off+1,none⟩) hb).trans hc
theorem Rd.vec {w:World} {B:Nat} {A:Option Addr} {vs:List V2} (h:Rd w B A (fl vs)) {k:Nat} (hk:k < vs.length) :
 ∃ ad,A=some ad∧ad.block < B∧w.cell? (ad.add (k * 2))=some (.int .i64 vs[k].1)∧w.cell? ⟨(ad.add (k * 2)).block,(ad.add (k * 2)).off+1,none⟩=some (.int .i64 vs[k].2):=by
 rcases h with e | ⟨ad,e,hb,hc⟩
 · have:=fl_len vs
   rw [e] at this
   simp at this;omega
 · exact ⟨ad,e,hb,hc _ _ (fl_at hk).1,by rw [←add_next];exact hc _ _ (fl_at hk).2⟩
theorem Rd.takeV {w:World} {B:Nat} {A:Option Addr} {vs:List V2} (h:Rd w B A (fl vs)) (k:Nat):Rd w B A (fl (vs.take k)):=by
 rcases h with e | ⟨ad,e,hb,hc⟩
 · left
   have:vs = []:=by
    have:=fl_len vs
    rw [e] at this
    exact List.eq_nil_of_length_eq_zero (by simp at this;omega)
   subst this;simp [fl]
 · refine .inr ⟨ad,e,hb,fun j u hu=>hc j u ?_⟩
   rw [fl_take] at hu
   rw [List.getElem?_take] at hu
   split at hu
   · exact hu
   · cases hu
theorem Rd.dropV {w:World} {B:Nat} {ad:Addr} {vs:List V2} (h:Rd w B (some ad) (fl vs)) (k:Nat):Rd w B (some (ad.add (k * 2))) (fl (vs.drop k)):=by
 rcases h with e | ⟨ad',e,hb,hc⟩
 · left
   have:vs = []:=by
    have:=fl_len vs
    rw [e] at this
    exact List.eq_nil_of_length_eq_zero (by simp at this;omega)
   subst this;simp [fl]
 · injection e with e
   subst e
   refine .inr ⟨_,rfl,by rw [add_block];exact hb,fun j u hu=>?_⟩
   rw [fl_drop,List.getElem?_drop] at hu
   have:=hc _ u hu
   rw [←this]
   unfold Addr.add
   by_cases h1:k * 2=0
   · rw [if_pos h1,h1,Nat.zero_add]
   · rw [if_neg h1]
     by_cases h2:j=0
     · rw [if_pos h2,h2,Nat.add_zero,if_neg h1]
     · rw [if_neg h2,if_neg (by omega),Nat.add_assoc]
/-- a list of vectors of the call's own, in a block from lo up to hi -/
def OwnV (w:World) (lo hi:Nat) (E:TypeId) (v:Value) (n:Nat) (vs:List V2):Prop:=w.ownsRow lo E 2 v n (fl vs)∧∀ g,v.ownBlock=some g → g < hi
section
variable {w w':World} {lo hi lo' hi' n c B:Nat} {E:TypeId} {v:Value} {vs:List V2} {A:Option Addr}
theorem OwnV.of (h:w'.ownsRow w.heap.size E 2 v n (fl vs)):OwnV w' w.heap.size w'.heap.size E v n vs:=⟨h,fun g hg=>(h.lt g hg).2⟩
theorem OwnV.of_row (h:w.ownsRow lo E 2 v n (fl vs)) (hh:w.heap.size≤hi):OwnV w lo hi E v n vs:=⟨h,fun g hg=>Nat.lt_of_lt_of_le (h.lt g hg).2 hh⟩
theorem OwnV.nil (w:World) (lo hi:Nat) (E:TypeId):OwnV w lo hi E (.slice none 0 0) 0 []:=⟨World.ownsRow_nil _ _ _ _,fun g hg=>by simp [Value.ownBlock] at hg⟩
theorem OwnV.len (h:OwnV w lo hi E v n vs):vs.length=n:=by
 have:=h.1.1
 rw [fl_len] at this;omega
theorem OwnV.below (h:OwnV w lo hi E v n vs) (hb:Below B w w') (hh:hi≤B):OwnV w' lo hi E v n vs:=⟨own_below h.1 hb fun g hg=>Nat.lt_of_lt_of_le (h.2 g hg) hh,h.2⟩
theorem OwnV.aside (h:OwnV w lo hi E v n vs) (ha:Aside lo' hi' w w') (hd:hi≤lo' ∨ hi'≤lo):OwnV w' lo hi E v n vs:=by
 refine ⟨⟨h.1.1,?_⟩,h.2⟩
 rcases h.1.2 with hn | ⟨g,c,cur,rfl,hbg,hg,r⟩
 · exact .inl hn
 · have hgs:g < w.heap.size:=(Array.getElem?_eq_some_iff.1 hg).1
   have hgh:g < hi:=h.2 g rfl
   exact .inr ⟨g,c,cur,rfl,hbg,by rw [ha.block g hgs (by omega)];exact hg,r⟩
theorem OwnV.wider (h:OwnV w lo hi E v n vs) (hl:lo'≤lo) (hh:hi≤hi'):OwnV w lo' hi' E v n vs:=⟨own_lower h.1 hl,fun g hg=>Nat.lt_of_lt_of_le (h.2 g hg) hh⟩
theorem OwnV.form (h:OwnV w lo hi E v n vs):∃ A c,v=.slice A n c:=by
 rcases h.1.2 with ⟨rfl,rfl⟩ | ⟨g,c,cur,rfl,_⟩
 · exact ⟨_,_,rfl⟩
 · exact ⟨_,_,rfl⟩
theorem OwnV.rdB (h:OwnV w lo hi E (.slice A n c) n vs) (hh:hi≤B):Rd w B A (fl vs):=by
 rcases h.1.2 with ⟨hv,hn⟩ | ⟨g,c',cur,hv,hbg,hg,hnc,hcm,r⟩
 · left
   have:=h.len
   rw [List.eq_nil_of_length_eq_zero (by omega:vs.length=0)];rfl
 · injection hv with e1 e2 e3
   subst e1
   exact .inr ⟨_,rfl,Nat.lt_of_lt_of_le (h.2 g rfl) hh,h.1.cells (g:=g) rfl⟩
theorem OwnV.rd (h:OwnV w lo hi E (.slice A n c) n vs):Rd w w.heap.size A (fl vs):=by
 rcases h.1.2 with ⟨hv,hn⟩ | ⟨g,c',cur,hv,hbg,hg,hnc,hcm,r⟩
 · left
   have:=h.len
   rw [List.eq_nil_of_length_eq_zero (by omega:vs.length=0)];rfl
 · injection hv with e1 e2 e3
   subst e1
   exact .inr ⟨_,rfl,(Array.getElem?_eq_some_iff.1 hg).1,h.1.cells (g:=g) rfl⟩
theorem OwnV.rdV (h:OwnV w lo hi E (.slice A n c) n vs) (hn:n≤1048576) (hw:wfV vs):RdV w w.heap.size A n vs:=⟨h.len,h.rd,hn,hw⟩
theorem OwnV.cap (h:OwnV w lo hi E (.slice A n c) n vs):n≤c∧c≤maxLen:=by
 rcases h.1.2 with ⟨hv,hn⟩ | ⟨g,c',cur,hv,hbg,hg,hnc,hcm,r⟩
 · injection hv with _ _ hv
   subst hn;subst hv
   exact ⟨Nat.le_refl _,Nat.zero_le _⟩
 · injection hv with _ _ hv
   subst hv
   exact ⟨hnc,hcm⟩
theorem OwnV.cut (h:OwnV w lo hi E (.slice A n c) n vs) {m:Nat} (hm:m≤n):OwnV w lo hi E (.slice A m c) m (vs.take m):=by
 have hl:=h.len
 rcases h.1.2 with ⟨hv,hn⟩ | ⟨g,c',cur,hv,hbg,hg,hnc,hcm,hs,ht⟩
 · injection hv with e1 e2 e3
   subst e1;subst e3;subst hn
   have:m=0:=by omega
   subst this
   simpa using OwnV.nil w lo hi E
 · injection hv with e1 e2 e3
   subst e1;subst e3
   refine ⟨⟨by rw [fl_len,List.length_take];omega,.inr ⟨g,c,cur,rfl,hbg,hg,by omega,hcm,hs,?_⟩⟩,fun k hk=>h.2 k hk⟩
   rw [fl_take,←ht,List.take_take]
   congr 1;omega
end
end Go.Proofs.YtafhhemojdblpaaGreat
