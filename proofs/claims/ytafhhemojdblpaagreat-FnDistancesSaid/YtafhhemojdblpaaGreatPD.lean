/-
  The texts PolR, PolD, PolD2, put together; each has its own heading below. No condition of ours.
-/
import Derived.Test.YtafhhemojdblpaaGreatHM
import Derived.Test.YtafhhemojdblpaaGreatPR
import Derived.Test.YtafhhemojdblpaaGreatRA
import Derived.Test.YtafhhemojdblpaaGreatDA
import Derived.Test.YtafhhemojdblpaaGreatHulR2
/-
  The reference's polygons: contracts: IsPolygon.
-/
namespace Go.Proofs.YtafhhemojdblpaaGreat
open Go.RowKit
set_option linter.unusedVariables false
set_option maxRecDepth 100000 in
set_option maxHeartbeats 1600000 in
theorem spec_IsPolygon (w:World) (B:Nat) (hB:B≤w.heap.size) (A:Option Addr) (n c:Nat) (l:List V2) (R:RdV w B A n l) :
 Calls Tryz.prog 64 #[.slice A n c] w fun e w'=>e=.returned (.bool (polyB l))∧Below w.heap.size w w':=by
 obtain ⟨hn,hx,hl,hwf⟩:=R
 by_cases h3:3≤n∧n≤16
 case neg =>
  have HP:Hid (polyB l=false):=polyB_no fun h=>by have:=h.1;have:=h.2.1;omega
  have HI:=hide (l01In_all n 3 16 w false (by show false=_;simp;omega))
  clear hx h3
  go_enter Tryz.func64,Tryz.ntmps64
  go_wp2_with fail
  refine HI.out.mono ?_
  rintro e w' ⟨rfl,rfl⟩
  go_wp2_with fail
  go_ret
  exact ⟨ret_bool HP.out.symm,Below.refl _ _⟩
 have HI:=hide (l01In_all n 3 16 w true (by show true=_;simp;omega))
 go_enter Tryz.func64,Tryz.ntmps64
 go_wp2_with fail
 refine HI.out.mono ?_
 rintro e w' ⟨rfl,rfl⟩
 clear HI
 go_wp2_with fail
 go_loopw [16] (fun i wr=>∃ k:Nat,k≤n∧i=.int .i64 k∧Hid (∀ i,i < k → ∀ j,j < n → okE l i j)∧Below w.heap.size w wr) (fun i _=>n - (intOf i).toNat)
 case atStart=>exact ⟨0,Nat.zero_le _,rfl,fun i h=>absurd h (Nat.not_lt_zero _),Below.refl _ _⟩
 case round =>
  obtain ⟨k,hk,rfl,H,hbel⟩:=hrel
  by_cases hlt:k < n
  · obtain ⟨ad,hA,hb1,hc1,hc2⟩:=(hx.below (hbel.mono hB)).vec (k:=k) (by omega)
    have hkl:k < l.length:=by omega
    obtain ⟨f1,f2⟩:=wfV_at hwf hkl
    have e0:Hid (l[k]=(l[k].1,l[k].2)):=rfl
    generalize l[k].1=x0 at *
    generalize l[k].2=y0 at *
    have hm:((k:Int)+1) % (n:Int)=(((k+1) % n:Nat):Int):=by rw [Int.natCast_emod];rfl
    have hp:(k+1) % n < n:=Nat.mod_lt _ (by omega)
    have hpl:Hid ((k+1) % n=(k+1) % l.length):=by show _=_;rw [hn]
    generalize (k+1) % n=p at *
    have hpl2:p < l.length:=by omega
    obtain ⟨ad',hA',hb3,hc3,hc4⟩:=(hx.below (hbel.mono hB)).vec (k:=p) (by omega)
    rw [hA] at hA'
    cases hA'
    obtain ⟨f3,f4⟩:=wfV_at hwf hpl2
    have e2:Hid (l[p]=(l[p].1,l[p].2)):=rfl
    generalize l[p].1=x2 at *
    generalize l[p].2=y2 at *
    obtain ⟨wo,ewo⟩:∃ x,x=wr:=⟨_,rfl⟩
    subst ewo
    obtain ⟨W0,hW0⟩:∃ W0,W0=(wo.alloc (.cells #[.int .i64 x0,.int .i64 y0] 44)).alloc (.cells #[.int .i64 x2,.int .i64 y2] 44):=⟨_,rfl⟩
    have hT0:Below wo.heap.size wo W0:=by rw [hW0];exact below_alloc (below_new _ _) _
    have ka:Box W0 wo.heap.size 44 #[.int .i64 x0,.int .i64 y0]:=by rw [hW0];exact (Box.last _ _ _ rfl).alloc _
    have kp:Box W0 (wo.heap.size+1) 44 #[.int .i64 x2,.int .i64 y2]:=by rw [hW0];exact Box.last _ _ _ (alloc_size _ _).symm
    have hs0:W0.heap.size=wo.heap.size+2:=by rw [hW0,alloc_size,alloc_size]
    have hba:(ad.add (p * 2)).block < wo.heap.size:=by rw [add_block];have:=hbel.size;omega
    subst hA
    go_wp2_with fail
    rw [←hW0,hm]
    clear hW0 hc1 hc2 hc3 hc4
    have hT:Below w.heap.size w W0:=hbel.trans (hT0.mono hbel.size)
    have hws:=hT.size
    clear hT0 hbel
    go_loopw [30] (fun j wi=>∃ m:Nat,m≤n∧j=.int .i64 m∧Hid (∀ j,j < m → okE l k j)∧Below W0.heap.size W0 wi) (fun j _=>n - (intOf j).toNat)
    case atStart=>exact ⟨0,Nat.zero_le _,rfl,fun i h=>absurd h (Nat.not_lt_zero _),Below.refl _ _⟩
    case round =>
     obtain ⟨m,hmn,rfl,HI,hbi⟩:=hrel
     by_cases hmlt:m < n
     · have hTi:=hT.trans (hbi.mono hws)
       obtain ⟨ae,hE,hb5,hc5,hc6⟩:=(hx.below (hTi.mono hB)).vec (k:=m) (by omega)
       cases hE
       have hml:m < l.length:=by omega
       obtain ⟨f5,f6⟩:=wfV_at hwf hml
       have e4:Hid (l[m]=(l[m].1,l[m].2)):=rfl
       generalize l[m].1=x1 at *
       generalize l[m].2=y1 at *
       obtain ⟨W1,hW1⟩:∃ W1,W1=wr.alloc (.cells #[.int .i64 x1,.int .i64 y1] 44):=⟨_,rfl⟩
       have kb:Box W1 wr.heap.size 44 #[.int .i64 x1,.int .i64 y1]:=by rw [hW1];exact Box.last _ _ _ rfl
       have hbj:Below W0.heap.size W0 W1:=by rw [hW1];exact below_alloc hbi _
       have HV:=hide (fun (W:World)=>spec_IsValidVec W x1 y1 f5 f6)
       go_upto_region 11 with fail
       rw [←hW1]
       clear hW1 hTi hc5 hc6
       obtain ⟨yb0,yb1⟩:=kb.cells2
       go_wp2_with fail
       refine (HV.out _).mono ?_
       rintro e w1 ⟨rfl,hb1⟩
       clear yb0 yb1
       have ka1:=ka.below (hbj.trans (hb1.mono hbj.size)) ka.lt
       have kp1:=kp.below (hbj.trans (hb1.mono hbj.size)) kp.lt
       have kb1:=kb.below hb1 kb.lt
       have hbk:=hbj.trans (hb1.mono hbj.size)
       by_cases ev:vecB x1 y1=true
       case neg =>
        have ev:vecB x1 y1=false:=by simpa using ev
        have HN:Hid (polyB l=false):=polyB_no fun h=>by
         have:=poly_vec h hml
         rw [atV_eq hml,e4.out] at this
         unfold vecV at this
         rw [ev] at this
         cases this
        rw [ev]
        go_wp2_with fail
        go_ret
        exact ⟨ret_bool HN.out.symm,hT.trans (hbk.mono hws)⟩
       rw [ev]
       clear HV
       have hne1:((m:Int) != (k:Int)) = !(decide (m=k)):=by
        by_cases e:m=k
        · simp [e]
        · have:(m:Int) ≠ (k:Int):=by omega
          simp [e,this]
       have hne2:((m:Int) != (p:Int)) = !(decide (m=p)):=by
        by_cases e:m=p
        · simp [e]
        · have:(m:Int) ≠ (p:Int):=by omega
          simp [e,this]
       by_cases e1:m=k
       · have hg:((m:Int) != (k:Int))=false:=by rw [hne1,decide_eq_true e1];rfl
         have HN:Hid (∀ j,j < m+1 → okE l k j):=fun j hj=>by
          by_cases ej:j=m
          · intro h;exact (h (ej.trans e1)).elim
          · exact HI.out j (by omega)
         clear hne1 hne2 e1
         go_wp2_with fail
         go_roundw
         case rel=>exact ⟨m+1,by omega,by go_num,HN,hbk⟩
         case measure=>simp [intOf];omega
       have hg1:((m:Int) != (k:Int))=true:=by rw [hne1,decide_eq_false e1];rfl
       by_cases e3:m=p
       · have hg:((m:Int) != (p:Int))=false:=by rw [hne2,decide_eq_true e3];rfl
         have HN:Hid (∀ j,j < m+1 → okE l k j):=fun j hj=>by
          by_cases ej:j=m
          · intro _ h;exact (h (ej.trans (e3.trans hpl.out))).elim
          · exact HI.out j (by omega)
         clear hne1 hne2 e3
         go_wp2_with fail
         go_roundw
         case rel=>exact ⟨m+1,by omega,by go_num,HN,hbk⟩
         case measure=>simp [intOf];omega
       have hg2:((m:Int) != (p:Int))=true:=by rw [hne2,decide_eq_false e3];rfl
       clear hne1 hne2
       have HT:=hide (fun (W:World)=>spec_Turn W x0 y0 f1 f2 x2 y2 f3 f4 x1 y1 f5 f6)
       have HE:Hid (okE l k m ↔ 0 < turnI x0 y0 x2 y2 x1 y1):=by
        show okE l k m ↔ _
        unfold okE
        rw [←hpl.out,atV_eq hkl,atV_eq hpl2,atV_eq hml,e0.out,e2.out,e4.out]
        exact ⟨fun h=>h e1 e3,fun h _ _=>h⟩
       generalize turnI x0 y0 x2 y2 x1 y1=T at *
       obtain ⟨ya0,ya1⟩:=ka1.cells2
       obtain ⟨yb0,yb1⟩:=kb1.cells2
       obtain ⟨yp0,yp1⟩:=kp1.cells2
       go_wp2_with fail
       refine (HT.out _).mono ?_
       rintro e w2 ⟨rfl,hb2⟩
       have hbl:=hbk.trans (hb2.mono hbk.size)
       clear ya0 ya1 yb0 yb1 yp0 yp1 ka1 kb1 kp1
       by_cases hpos:0 < T
       · have HN:Hid (∀ j,j < m+1 → okE l k j):=fun j hj=>by
          by_cases ej:j=m
          · rw [ej];exact HE.out.2 hpos
          · exact HI.out j (by omega)
         go_wp2_with fail
         go_roundw
         case rel=>exact ⟨m+1,by omega,by go_num,HN,hbl⟩
         case measure=>simp [intOf];omega
       · have HN:Hid (polyB l=false):=polyB_no fun h=>hpos (HE.out.1 (h.2.2 k hkl m hml))
         go_wp2_with fail
         go_ret
         exact ⟨ret_bool HN.out.symm,hT.trans (hbl.mono hws)⟩
     · obtain rfl:m=n:=by omega
       have HN:Hid (∀ i,i < k+1 → ∀ j,j < m → okE l i j):=fun i hi j hj=>by
        by_cases ei:i=k
        · rw [ei];exact HI.out j hj
        · exact H.out i (by omega) j hj
       clear HI H
       go_wp2_with fail
       go_roundw
       case rel=>exact ⟨k+1,by omega,by go_num,HN,hT.trans (hbi.mono hws)⟩
       case measure=>simp [intOf];omega
  · obtain rfl:k=n:=by omega
    have HP:Hid (polyB l=true):=polyB_iff.2 ⟨by omega,by omega,fun i hi j hj=>H.out i (by omega) j (by omega)⟩
    clear H hx
    go_wp2_with fail
    go_ret
    exact ⟨ret_bool HP.out.symm,hbel⟩
end Go.Proofs.YtafhhemojdblpaaGreat
/-
  The laws' polygons: what the reference's draws make of them, as functions of the bytes.
-/
namespace Go.Proofs.YtafhhemojdblpaaGreat
open Go.RowKit
set_option linter.unusedVariables false
theorem aside_belowD {w w1 w2:World} {lo hi B:Nat} (h:Aside lo hi w w1) (hb:Below B w1 w2) (hB:w.heap.size≤B):Aside lo hi w w2 :=
 ⟨hb.os.trans h.os,hb.tape.trans h.tape,hb.output.trans h.output,Nat.le_trans h.size hb.size,fun k hk hd=>(hb.block k (by omega)).trans (h.block k hk hd)⟩
theorem Only.asideF {G:Nat} {w w':World} (h:Only G w w'):Aside G (G+1) w w' :=
 ⟨h.1.os,h.1.tape,h.1.output,h.1.size,fun k hk hd=>h.1.block k hk (fun e=>by injection e with e;omega)⟩
def ptF (bs:List Int) (s:CurS):V2 × CurS:=(((belowF bs s 11:Int) - 5,(belowF bs (byteF bs s).2 11:Int) - 5),(byteF bs (byteF bs s).2).2)
def ptsF (bs:List Int):Nat → CurS → List V2 → List V2 × CurS
 | 0,s,T=>(T,s)
 | q+1,s,T=>ptsF bs q (ptF bs s).2 (T ++ [(ptF bs s).1])
def tryF (bs:List Int) (s:CurS):List V2 × CurS:=ptsF bs (3+belowF bs s 3) (byteF bs s).2 []
def triF:List V2:=[(-1,-1),(1,-1),(0,1)]
noncomputable def drawF (bs:List Int):Nat → CurS → List V2
 | 0,_=>triF
 | k+1,s=>if polyB (hullV (tryF bs s).1) then hullV (tryF bs s).1 else drawF bs k (tryF bs s).2
/-- a corner of the draws -/
def smallV (v:V2):Prop:=v.1.natAbs≤5∧v.2.natAbs≤5
theorem smallV.wf {v:V2} (h:smallV v):(Lit.int .i64 v.1).wf=true∧(Lit.int .i64 v.2).wf=true:=by
 obtain ⟨h1,h2⟩:=h
 exact ⟨wf_of (by omega) (by omega),wf_of (by omega) (by omega)⟩
theorem ptF_small (bs:List Int) (s:CurS):smallV (ptF bs s).1:=by
 have h1:belowF bs s 11 < 11:=Nat.mod_lt _ (by omega)
 have h2:belowF bs (byteF bs s).2 11 < 11:=Nat.mod_lt _ (by omega)
 unfold smallV ptF
 constructor <;> (simp only;omega)
theorem ptsF_all (bs:List Int):∀ q s T,(∀ v ∈ T,smallV v) → (∀ v ∈ (ptsF bs q s T).1,smallV v)∧(ptsF bs q s T).1.length=T.length+q:=by
 intro q
 induction q with
 | zero=>intro s T h;exact ⟨h,rfl⟩
 | succ q ih =>
   intro s T h
   obtain ⟨h1,h2⟩:=ih (ptF bs s).2 (T ++ [(ptF bs s).1]) (fun v hv=>by
    rcases List.mem_append.1 hv with hv | hv
    · exact h v hv
    · rw [List.mem_singleton.1 hv];exact ptF_small bs s)
   exact ⟨h1,by show (ptsF bs q _ _).1.length=_;rw [h2,List.length_append];simp;omega⟩
theorem tryF_all (bs:List Int) (s:CurS):(∀ v ∈ (tryF bs s).1,smallV v)∧(tryF bs s).1.length≤5:=by
 obtain ⟨h1,h2⟩:=ptsF_all bs (3+belowF bs s 3) (byteF bs s).2 [] (fun v hv=>by simp at hv)
 have h3:belowF bs s 3 < 3:=Nat.mod_lt _ (by omega)
 exact ⟨h1,by show (ptsF bs _ _ _).1.length≤5;rw [h2];simp;omega⟩
set_option maxRecDepth 100000 in
set_option maxHeartbeats 3200000 in
theorem l06Draw_f (G c:Nat) (A:Option Addr) (bs:List Int) (s:CurS) (B:Nat) (w:World) (hn:bs.length≤1099511627776) (hc:CurF w G A bs.length c s) (hb:BytesF w B A bs) (hB:B≤G) :
 Calls Tryz.prog 25 #[.pointer (some ⟨G,0,none⟩),.int .i64 5] w fun e w'=>∃ v,e=.returned v∧OwnV w' w.heap.size w'.heap.size 44 v (drawF bs 8 s).length (drawF bs 8 s)∧Aside G (G+1) w w':=by
 have hGw:=hc.lt
 go_enter Tryz.func25,Tryz.ntmps25
 go_wp2_with fail
 go_loopw [5] (fun i wr=>∃ (j:Nat) (s':CurS),j≤8∧i=.int .i64 j∧Hid (drawF bs (8 - j) s'=drawF bs 8 s)∧CurF wr G A bs.length c s'∧Aside G (G+1) w wr) (fun i _=>8 - (intOf i).toNat)
 case atStart=>exact ⟨0,s,Nat.zero_le _,rfl,rfl,hc,Aside.refl _⟩
 case round =>
  clear hc
  obtain ⟨j,s',hj,rfl,HD,hc,ha⟩:=hrel
  have hws:=ha.size
  have hbr:=hb.below (ha.below hB (by omega))
  by_cases hlt:j < 8
  · have hE:=World.ownsRow_made (e:=44) (size:=2) wr #[] 0 (Nat.le_refl _) (by unfold maxLen;omega) rfl
    have hb4:Below wr.heap.size wr (wr.alloc (.cells #[] 44)):=below_new _ _
    obtain ⟨W0,hW0⟩:∃ W0,W0=wr.alloc (.cells #[] 44):=⟨_,rfl⟩
    rw [←hW0] at hE hb4
    have ha0:=aside_belowD ha hb4 hws
    have hc0:=hc.below hb4 hc.lt
    have hb0:=hbr.below (hb4.mono (by omega))
    have HL:=hide (l01Below_f G c 3 A bs s' B W0 hn (by omega) (by omega) hc0 hb0 hB)
    have hs0:=hb4.size
    have HT:Hid (tryF bs s'=ptsF bs (3+belowF bs s' 3) (byteF bs s').2 []):=rfl
    obtain ⟨t1,t2⟩:=tryF_all bs s'
    have HDS:Hid (drawF bs (8 - j) s'=if polyB (hullV (tryF bs s').1) then hullV (tryF bs s').1 else drawF bs (8 - (j+1)) (tryF bs s').2):=by
     show _=_
     obtain ⟨q,hq⟩:∃ q,8 - j=q+1:=⟨7 - j,by omega⟩
     rw [hq,show 8 - (j+1)=q by omega];rfl
    have hx3:belowF bs s' 3 < 3:=Nat.mod_lt _ (by omega)
    generalize belowF bs s' 3=x at *
    generalize (byteF bs s').2=s1 at *
    generalize tryF bs s'=tr at *
    clear hc hb4
    go_upto_region 5 with fail
    rw [←hW0]
    clear hW0
    go_wp2_with fail
    refine HL.out.mono ?_
    rintro e w1 ⟨rfl,hc1,ho1⟩
    have ha1:=ha0.trans ho1.asideF
    have hE1:=((OwnV.of_row (vs:=[]) hE (Nat.le_refl W0.heap.size)).aside ho1.asideF (.inr (by have:=ha.size;omega))).1
    have hs1:=ho1.2
    clear hE ha0 hc0 hb0 HL ho1
    go_wp2_with fail
    obtain ⟨wo,ewo⟩:∃ x,x=wr:=⟨_,rfl⟩
    subst ewo
    go_loopw [6,7] (fun v i wi=>∃ (q:Nat) (s2:CurS) (T:List V2),q≤3+x∧T.length+q=3+x∧i=.int .i64 q∧Hid (ptsF bs q s2 T=tr)∧wi.ownsRow wo.heap.size 44 2 v T.length (fl T)∧CurF wi G A bs.length c s2∧Aside G (G+1) w wi∧wo.heap.size≤wi.heap.size) (fun _ i _=>(intOf i).toNat)
    case atStart=>exact ⟨3+x,s1,[],by omega,by simp,by go_num,HT.out.symm,by simpa [fl] using hE1,hc1,ha1,by omega⟩
    case round =>
     clear hE1 hc1 ha1
     obtain ⟨q,s2,T,hq,hTq,rfl,HP,hown,hc2,ha2,hs2⟩:=hrel
     cases q with
     | succ q =>
       have hgw:=hc2.lt
       have hbw:=hb.below (ha2.below hB (by omega))
       have hx1:belowF bs s2 11 < 11:=Nat.mod_lt _ (by omega)
       have hy1:belowF bs (byteF bs s2).2 11 < 11:=Nat.mod_lt _ (by omega)
       have HL1:=hide (l01Below_f G c 11 A bs s2 B wr hn (by omega) (by omega) hc2 hbw hB)
       have HL2:=hide (fun (W:World) (h1:CurF W G A bs.length c (byteF bs s2).2) (h2:BytesF W B A bs)=>l01Below_f G c 11 A bs (byteF bs s2).2 B W hn (by omega) (by omega) h1 h2 hB)
       have HP2:Hid (ptsF bs q (byteF bs (byteF bs s2).2).2 (T ++ [((belowF bs s2 11:Int) - 5,(belowF bs (byteF bs s2).2 11:Int) - 5)])=tr):=HP
       generalize belowF bs (byteF bs s2).2 11=y1 at *
       generalize belowF bs s2 11=x1 at *
       generalize (byteF bs (byteF bs s2).2).2=s4 at *
       generalize (byteF bs s2).2=s3 at *
       have HTq:=hide hTq
       have hT5:T.length+q+1≤5:=by omega
       have hq0:(0:Int) < (q:Int)+1:=by omega
       have hq1:((q:Int)+1) - 1=(q:Int):=by omega
       clear HP hTq
       go_wp2_with fail
       refine HL1.out.mono ?_
       rintro e w3 ⟨rfl,hc3,ho3⟩
       have hb3:=hbw.below (ho3.below hB (by omega))
       have hz3:=ho3.2
       have ha3:=ha2.trans ho3.asideF
       have o3:=((OwnV.of_row hown (Nat.le_refl wr.heap.size)).aside ho3.asideF (.inr (by omega))).1
       have HZ3:Hid (w3.heap.size=wr.heap.size):=hz3
       clear hz3 hc2 ha2 hown HL1 ho3
       go_wp2_with fail
       refine (HL2.out w3 hc3 hb3).mono ?_
       rintro e w4 ⟨rfl,hc4,ho4⟩
       have ha4:=ha3.trans ho4.asideF
       have hz4:wo.heap.size≤w4.heap.size:=by have:=ho4.2;have:=HZ3.out;omega
       have o4:=((OwnV.of_row o3 (Nat.le_refl w3.heap.size)).aside ho4.asideF (.inr (by omega))).1
       clear hc3 ha3 o3 HL2 ho4
       go_wp2_with (at_builtin;refine wpList_append1 Tryz.sliceVec rfl _ _ rfl w4 wo.heap.size _ _ _ o4 rfl #[.int .i64 ((x1:Int) - 5),.int .i64 ((y1:Int) - 5)] 1 rfl rfl (by simp [Value.oneCell']) (by omega) (by omega) (by omega) ?_;intro v' w5 hown5 hb5)
       go_roundw
       case rel=>exact ⟨q,s4,T ++ [((x1:Int) - 5,(y1:Int) - 5)],by omega,by have:=HTq.out;rw [List.length_append];simp;omega,by go_num,HP2,by rw [fl_append,List.length_append];exact hown5,hc4.below hb5 (by omega),aside_belowD ha4 hb5 (by omega),Nat.le_trans hz4 hb5.size⟩
       case measure=>simp [intOf] <;> omega
     | zero =>
       have eT:tr=(T,s2):=HP.out.symm
       have HT1:Hid (∀ v ∈ T,smallV v):=by intro v hv;exact t1 v (by rw [eT];exact hv)
       have hT5:T.length≤5:=by rw [eT] at t2;exact t2
       have HDS2:Hid (drawF bs (8 - j) s'=if polyB (hullV T) then hullV T else drawF bs (8 - (j+1)) s2):=by have:=HDS.out;rw [eT] at this;exact this
       have hwT:wfV T:=fun v hv=>(HT1.out v hv).wf
       have o:=OwnV.of_row hown (Nat.le_refl wr.heap.size)
       obtain ⟨A1,c1,rfl⟩:=o.form
       have HH:=hide (fun (W:World) (h:Below wr.heap.size wr W)=>spec_HullOf W W.heap.size (Nat.le_refl _) A1 T.length c1 T ⟨rfl,OwnV.rd (o.below h (Nat.le_refl _)),by omega,hwT⟩)
       have hl1:=hullV_len T
       have hl2:=hullV_wf hwT
       clear hown o t1 t2 HDS eT HP
       go_wp2_with fail
       refine (HH.out _ (by first | exact Below.refl _ _ | exact (Below.refl _ _).drew)).mono ?_
       rintro e w6 ⟨v6,rfl,o6,hb6⟩
       have hb6:Below wr.heap.size wr w6:=by first | exact hb6 | exact undrew hb6
       obtain ⟨A6,c6,rfl⟩:=o6.form
       have o6:OwnV w6 wr.heap.size w6.heap.size 44 (.slice A6 (hullV T).length c6) (hullV T).length (hullV T):=o6
       have HI:=hide (fun (W:World) (h:Below w6.heap.size w6 W)=>spec_IsPolygon W W.heap.size (Nat.le_refl _) A6 (hullV T).length c6 (hullV T) ⟨rfl,OwnV.rd ((o6.below h (Nat.le_refl _)).wider (Nat.le_refl _) (Nat.le_refl _)),hl1,hl2⟩)
       have HHT:=hide (rfl:hullV T=hullV T)
       clear HH
       go_wp2_with fail
       refine (HI.out _ (by first | exact Below.refl _ _ | exact (Below.refl _ _).drew)).mono ?_
       rintro e w7 ⟨rfl,hb7⟩
       have hb7:Below w6.heap.size w6 w7:=by first | exact hb7 | exact undrew hb7
       have hs6:=hb6.size
       have o7:=(o6.below hb7 (Nat.le_refl _)).wider (show w.heap.size≤wr.heap.size by omega) hb7.size
       have ha7:=aside_belowD (aside_belowD ha2 hb6 (by omega)) hb7 (by omega)
       have hc7:=(hc2.below hb6 hc2.lt).below hb7 (Nat.lt_of_lt_of_le hc2.lt hs6)
       clear HI o6 hb7 hc2 ha2
       by_cases ev:polyB (hullV T)=true
       · have HE:Hid (hullV T=drawF bs 8 s):=by show _=_;rw [←HD.out,HDS2.out,if_pos ev]
         rw [ev]
         clear ev
         go_wp2_with fail
         go_ret
         refine ⟨_,rfl,?_,by first | exact ha7 | exact ⟨ha7.os,ha7.tape,ha7.output,ha7.size,ha7.block⟩⟩
         rw [←HE.out]
         exact o7
       · have HE:Hid (drawF bs (8 - (j+1)) s2=drawF bs 8 s):=by show _=_;rw [←HD.out,HDS2.out,if_neg ev]
         have ev:polyB (hullV T)=false:=by simpa using ev
         rw [ev]
         clear ev
         go_wp2_with fail
         go_roundw
         case rel=>exact ⟨j+1,s2,by omega,by go_num,HE,hc7,ha7⟩
         case measure=>simp [intOf] <;> omega
  · obtain rfl:j=8:=by omega
    have HE:Hid (triF=drawF bs 8 s):=HD.out
    clear HD
    go_wp2_with fail
    go_ret
    refine ⟨_,rfl,?_,by first | exact aside_belowD ha (below_new _ _) hws | exact (fun h=>⟨h.os,h.tape,h.output,h.size,h.block⟩:Aside G (G+1) w (wr.alloc _) → _) (aside_belowD ha (below_new _ _) hws)⟩
    rw [←HE.out]
    have hO:(wr.alloc (.cells #[.int .i64 (-1),.int .i64 (-1),.int .i64 1,.int .i64 (-1),.int .i64 0,.int .i64 1] 44)).ownsRow wr.heap.size 44 2 (.slice (some ⟨wr.heap.size,0,none⟩) 3 3) 3 (fl triF) :=
     ⟨rfl,.inr ⟨wr.heap.size,3,_,rfl,Nat.le_refl _,heap_alloc_new wr _,Nat.le_refl _,by unfold maxLen;omega,rfl,rfl⟩⟩
    exact OwnV.of_row (own_lower hO hws) (by first | exact Nat.le_refl _ | (rw [alloc_size];omega))
theorem drawF_small (bs:List Int):∀ k s,(∀ v ∈ drawF bs k s,smallV v)∧(drawF bs k s).length≤16∧polyP (drawF bs k s):=by
 intro k
 induction k with
 | zero =>
   intro s
   refine ⟨fun v hv=>?_,by show 3≤16;omega,by show 3≤3;omega,by show 3≤16;omega,fun i hi j hj h1 h2=>?_⟩
   · have hv:v ∈ triF:=hv
     simp [triF] at hv
     rcases hv with rfl | rfl | rfl <;> (unfold smallV;decide)
   · have hi:i < 3:=hi
     have hj:j < 3:=hj
     show 0 < tV (atV triF i) (atV triF ((i+1) % 3)) (atV triF j)
     have h2:j ≠ (i+1) % 3:=h2
     obtain rfl | rfl | rfl:i=0 ∨ i=1 ∨ i=2:=by omega
     all_goals (obtain rfl | rfl | rfl:j=0 ∨ j=1 ∨ j=2:=by omega)
     all_goals first | (exfalso;omega) | decide
 | succ k ih =>
   intro s
   unfold drawF
   split
   · rename_i hp
     have hp:=polyB_iff.1 hp
     obtain ⟨h1,h2⟩:=tryF_all bs s
     refine ⟨fun v hv=>?_,hp.2.1,hp⟩
     unfold hullV at hv
     split at hv
     · exact h1 v ((srtV_mem _ v).1 (hul2_mem _ v hv))
     · simp at hv
   · exact ih _
set_option maxRecDepth 100000 in
set_option maxHeartbeats 1600000 in
theorem MakePolygon_f (c B:Nat) (A:Option Addr) (bs:List Int) (k:Nat) (hk:k≤1000) (w:World) (hn:bs.length≤1099511627776) (hb:BytesF w B A bs) (hB:B≤w.heap.size) :
 Calls Tryz.prog 6 #[.slice A bs.length c,.int .i64 k] w fun e w'=>∃ v,e=.returned v∧OwnV w' w.heap.size w'.heap.size 44 v (drawF bs 8 (skipF bs (newS bs) (7 * k))).length (drawF bs 8 (skipF bs (newS bs) (7 * k)))∧Below w.heap.size w w':=by
 obtain ⟨K,hK⟩:∃ K:Nat,K=7 * k:=⟨_,rfl⟩
 have hKe:7 * (k:Int)=(K:Int):=by omega
 rw [←hK]
 have HL:=hide (l31New_f c B K A bs w hn (by omega) hb hB)
 clear hK
 go_enter Tryz.func6,Tryz.ntmps6
 go_wp2_with fail
 refine HL.out.mono ?_
 rintro e w1 ⟨rfl,hc1,hb1,hs1⟩
 have HN:=hide (l06Draw_f w.heap.size c A bs _ B w1 hn hc1 (hb.below (hb1.mono hB)) hB)
 have HB1:=hide (And.intro hb1 hs1)
 clear hb1 hs1 hc1 HL
 go_wp2_with fail
 refine HN.out.mono ?_
 rintro e w2 ⟨v,rfl,o,ha⟩
 go_wp2_with fail
 go_ret
 obtain ⟨hb1,hs1⟩:=HB1.out
 exact ⟨_,rfl,o.wider (by omega) (Nat.le_refl _),hb1.trans (ha.below (Nat.le_refl _) (by omega))⟩
end Go.Proofs.YtafhhemojdblpaaGreat
/-
  The laws' polygons: each is its own hull, two of them have at most ten corners; what FnHull asks of them.
-/
namespace Go.Proofs.YtafhhemojdblpaaGreat
open Go.RowKit
set_option linter.unusedVariables false
theorem IsRow.bytesF {w:World} {a:Option Addr} {len cap:Nat} {zs:List Int} (h:IsRow .u8 w a len cap zs):BytesF w w.heap.size a (zs.take len)∧(zs.take len).length=len∧len≤maxLen:=by
 rcases h with ⟨rfl,rfl,rfl,rfl⟩ | ⟨x,rfl,hl,hm,hz,hc,hs⟩
 · exact ⟨fun k hk=>by simp at hk,rfl,Nat.zero_le _⟩
 · have hlen:(zs.take len).length=len:=by rw [List.length_take];omega
   refine ⟨fun k hk=>?_,hlen,Nat.le_trans hl hm⟩
   have hk':k < zs.length:=by omega
   have h1:=hc k hk'
   have hlt:=World.block_lt_of_cell? w _ h1
   rw [add_block] at hlt
   have e:zs.getD k 0=zs[k]:=by simp [List.getD,hk']
   rw [e] at h1
   have:=bounds_u8 (hs _ (List.getElem_mem hk'))
   rw [List.getElem_take]
   exact ⟨x,rfl,hlt,h1,this.1,this.2⟩
end Go.Proofs.YtafhhemojdblpaaGreat
