/-
  The texts VecD, VecA, put together; each has its own heading below. No condition of ours.
-/
import Derived.Test.YtafhhemojdblpaaGreatDA
import Derived.Test.YtafhhemojdblpaaGreatPB
import Derived.Test.YtafhhemojdblpaaGreatLB
import Derived.IntWalk
import Derived.Test.YtafhhemojdblpaaGreatHV
/-
  The laws' vectors: what the reference's draws make.
-/
namespace Go.Proofs.YtafhhemojdblpaaGreat
open Go.RowKit
set_option linter.unusedVariables false
theorem Only.asideS {G:Nat} {a b:World} (h:Only G a b):Aside G (G+1) a b :=
 ⟨h.1.os,h.1.tape,h.1.output,h.1.size,fun i hi hd=>h.1.block i hi (fun e=>by injection e with e;omega)⟩
theorem alloc_asideS (w:World) (o:Obj) (lo hi:Nat):Aside lo hi w (w.alloc o):=⟨((Below.refl w.heap.size w).alloc (Nat.le_refl _) o).os,((Below.refl w.heap.size w).alloc (Nat.le_refl _) o).tape,((Below.refl w.heap.size w).alloc (Nat.le_refl _) o).output,((Below.refl w.heap.size w).alloc (Nat.le_refl _) o).size,fun k hk _=>((Below.refl w.heap.size w).alloc (Nat.le_refl _) o).block k hk⟩
theorem aside_set_newS {w W:World} {lo hi g j:Nat} (h:Aside lo hi w W) (hg:w.heap.size≤g) (u:Value):Aside lo hi w (W.setCell ⟨g,j,none⟩ u) :=
 ⟨h.os,h.tape,h.output,by rw [setCell_size];exact h.size,fun k hk hd=>(Below.heap_setCell _ _ _ _ (show k ≠ g by omega)).trans (h.block k hk hd)⟩
theorem cur_setS {w:World} {G g n c i:Nat} {A:Option Addr} (h:CurAt w G A n c) (hg:G < g) (v:Value):CurAt (w.setCell ⟨g,i,none⟩ v) G A n c :=
 h.below (B:=G+1) ((Below.refl (G+1) w).setCell (p:=⟨g,i,none⟩) (show G+1≤g by omega) v) (Nat.lt_succ_self _)
set_option maxRecDepth 100000 in
set_option maxHeartbeats 1600000 in
theorem l05Vec_s (G n c:Nat) (A:Option Addr) (B:Nat) (w:World) (hn:n≤1099511627776) (hc:CurAt w G A n c) (hb:Bytes w B A n) (hB:B≤G) :
 Calls Tryz.prog 57 #[.pointer (some ⟨G,0,none⟩)] w fun e w'=>∃ x y:Int,e=.returned (.agg #[.int .i64 x,.int .i64 y])∧(x.natAbs≤10∧y.natAbs≤10)∧CurAt w' G A n c∧Aside G (G+1) w w':=by
 have hGw:=hc.lt
 have hb0:=below_new w (.cells #[.int .i64 0,.int .i64 0] 44)
 have ha0:=alloc_asideS w (.cells #[.int .i64 0,.int .i64 0] 44) G (G+1)
 have k0:=Box.last w 44 #[.int .i64 0,.int .i64 0] rfl
 have hs0:=alloc_size w (.cells #[.int .i64 0,.int .i64 0] 44)
 have hc0:=hc.below hb0 hGw
 have hbb0:=hb.below (hb0.mono (by omega))
 have HO1:=hide (l01Below_any G n c 21 A B _ hn (by omega) (by omega) hc0 hbb0 hB)
 go_enter Tryz.func57,Tryz.ntmps57
 go_wp2_with fail
 refine HO1.out.mono ?_
 rintro e w1 ⟨r,rfl,hr,hc1,ho1⟩
 have ha1:=ha0.trans (Only.asideS ho1)
 have k1:=k0.aside (Only.asideS ho1) (.inr (by omega))
 have hs1:w1.heap.size=w.heap.size+1:=by rw [ho1.2,hs0]
 have hbb1:=hbb0.below (ho1.below hB (by omega))
 have HO2:=hide (l01Below_any G n c 21 A B w1 hn (by omega) (by omega) hc1 hbb1 hB)
 have HS1:=hide hs1
 clear hc hb hb0 ha0 k0 hc0 hbb0 HO1 ho1 hs0 hs1 hbb1 hc1
 go_wp2_with fail
 refine HO2.out.mono ?_
 rintro e w2 ⟨r',rfl,hr',hc2,ho2⟩
 have ha2:=ha1.trans (Only.asideS ho2)
 have k2:=k1.aside (Only.asideS ho2) (.inr (by omega))
 have HE:=hide (⟨k2.set2 (.int .i64 ((r:Int) - 10)) (.int .i64 ((r':Int) - 10)),cur_setS (cur_setS hc2 (show G < w.heap.size by omega) _) (show G < w.heap.size by omega) _,aside_set_newS (aside_set_newS ha2 (Nat.le_refl _) _) (Nat.le_refl _) _⟩:Box ((w2.setCell ⟨w.heap.size,0,none⟩ (.int .i64 ((r:Int) - 10))).setCell ⟨w.heap.size,1,none⟩ (.int .i64 ((r':Int) - 10))) w.heap.size 44 #[.int .i64 ((r:Int) - 10),.int .i64 ((r':Int) - 10)]∧CurAt ((w2.setCell ⟨w.heap.size,0,none⟩ (.int .i64 ((r:Int) - 10))).setCell ⟨w.heap.size,1,none⟩ (.int .i64 ((r':Int) - 10))) G A n c∧Aside G (G+1) w ((w2.setCell ⟨w.heap.size,0,none⟩ (.int .i64 ((r:Int) - 10))).setCell ⟨w.heap.size,1,none⟩ (.int .i64 ((r':Int) - 10))))
 obtain ⟨t0,t1,f0,f1⟩:=k2.facts
 clear HO2 HS1 k1 k2 ha1 ha2 hc2 ho2
 go_wp2_with fail
 refine bodyPost_ret (results_cell_row rfl _ _ w.heap.size _ #[.int .i64 ((r:Int) - 10),.int .i64 ((r':Int) - 10)] (0,0) _ rfl HE.out.1 Tryz.underlying44 rfl Tryz.sizeVec) rfl ?_
 exact ⟨_,_,rfl,⟨by omega,by omega⟩,HE.out.2⟩
end Go.Proofs.YtafhhemojdblpaaGreat
/-
  append of a list of vectors that can be read; the reference's order of vectors.
-/
namespace Go.Proofs.YtafhhemojdblpaaGreat
open Go.RowKit
set_option linter.unusedVariables false
/-- append of a list that can be read, to a row of the call's own; elements of any size -/
theorem wpList_append_rdS {P:Program} {t e:TypeId} {size bytes:Nat} (T:SliceOf P t e size bytes) {ops:Array Oper} {rest:List Oper} {o:Oper} {a:Act} {Q:Exit → Act → World → Prop}
 (hgd:o.guard=none) (s x:Operand) (ho:o.op=.call { callee:=.builtin .append,args:=#[s,x],argTypes:=#[t,t] })
 (W:World) (base:Nat) (v:Value) (n:Nat) (xs:List Value) (hown:W.ownsRow base e size v n xs) (hs:a.eval s=v)
 (B:Nat) (A:Option Addr) (m c:Nat) (news:List Value) (hx:a.eval x=.slice A m c) (hl:news.length=m * size) (R:Rd W B A news) (h1:∀ u ∈ news,u.oneCell'=true)
 (h63:n+m≤maxLen) (hn:(n+m) * bytes≤140737488355328) (hbase:base≤W.heap.size)
 (h:∀ v' w',w'.ownsRow base e size v' (n+m) (xs ++ news) → Below base W w' → wpList P ops Q rest (a.put o.dst v') w') :
 wpList P ops Q (o :: rest) a W:=by
 obtain ⟨ht,i,z,hi,hz,hsize,hby,hzs,hsz⟩:=T
 cases A with
 | none =>
   have hnil:news = []:=by
    rcases R with e | ⟨ad,e,_⟩
    · exact e
    · cases e
   subst hnil
   have hm:m=0:=by
    have h0:m * size=0:=hl.symm
    rcases Nat.mul_eq_zero.1 h0 with h | h
    · exact h
    · omega
   subst hm
   refine wpList_plain hgd fun K hK=>?_
   have hrun:=run_append_nilc (P:=P) (w:=W) base t o.type e i size ht hi v n xs hown c
   unfold Oper.wp
   simp [execOp,ho,resolve,invoke,builtin,hs,hx,hrun,Result.andThen]
   exact hK _ _ (h v W (by simpa using hown) (Below.refl _ _))
 | some ad =>
   refine wpList_append_own W hgd s x t ho base e i z size bytes ht hi hz hsize hby hzs hsz v n xs hs hown ad m c news hx hl ?_ h1 h63 hn hbase ?_
   · intro j u hu
     rcases R with e | ⟨ad',e,_,hc⟩
     · subst e;simp at hu
     · injection e with e;subst e;exact hc j u hu
   · intro v' w' hown' hgrow _
     exact h v' w' hown' ((Below.refl base W).grown hgrow hbase fun k hk=>(hown.lt k hk).1)
theorem spec_Less (w:World) (a b:V2) (ha1:(Lit.int .i64 a.1).wf=true) (ha2:(Lit.int .i64 a.2).wf=true) (hb1:(Lit.int .i64 b.1).wf=true) (hb2:(Lit.int .i64 b.2).wf=true) :
 Calls Tryz.prog 97 #[.agg #[.int .i64 a.1,.int .i64 a.2],.agg #[.int .i64 b.1,.int .i64 b.2]] w fun e w'=>e=.returned (.bool (decide (lt2 a b)))∧Below w.heap.size w w':=by
 obtain ⟨x0,y0⟩:=a
 obtain ⟨x1,y1⟩:=b
 simp only at *
 have HD:Hid (∀ t:Bool,(t=true ↔ (x0 < x1 ∨ x0=x1∧y0 < y1)) → t=decide (lt2 (x0,y0) (x1,y1))):=fun t h=>by
  rw [Bool.eq_iff_iff,h,decide_eq_true_iff];exact Iff.rfl
 generalize decide (lt2 (x0,y0) (x1,y1))=D at HD ⊢
 obtain ⟨hx1,hx2⟩:=bounds_i64 ha1
 by_cases c1:x0 < x1
 · go_enter Tryz.func97,Tryz.ntmps97
   go_wp2_with fail
   go_ret
   exact ⟨ret_bool (HD.out true (by simp [c1])),below_alloc (below_new _ _) _⟩
 · by_cases c2:x0=x1
   · subst c2
     go_enter Tryz.func97,Tryz.ntmps97
     go_wp2_with fail
     go_ret
     exact ⟨ret_bool (a:=decide (y0 < y1)) (HD.out _ (by simp)),below_alloc (below_new _ _) _⟩
   · have c3:(x0 == x1)=false:=by simpa using c2
     go_enter Tryz.func97,Tryz.ntmps97
     go_wp2_with fail
     go_ret
     exact ⟨ret_bool (HD.out false (by simp [c1,c2])),below_alloc (below_new _ _) _⟩
end Go.Proofs.YtafhhemojdblpaaGreat
