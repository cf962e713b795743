/-
  The texts ScnQ, ScnG, put together; each has its own heading below. No condition of ours.
-/
import Derived.Test.YtocllmaikngoaaaSC
import Derived.ArgAppend
import Derived.Deep.RegionHeldLaw
/-
  The reference's scenes: contracts (2): l10Lists.
-/

namespace Go.Proofs.Ytocllmaikngoaaa
open Go.RowKit
set_option linter.unusedVariables false
set_option maxRecDepth 100000 in
set_option maxHeartbeats 3200000 in
theorem spec_l10Lists (w : World) (B : Nat) (hB : B ≤ w.heap.size) (A : Option Addr) (n c : Nat) (ss : List Sl) (R : RdS w B A n ss) :
    Calls Try.prog 27 #[.slice A n c] w fun e w' => ∃ v tt, e = .returned v ∧ OwnSS w' w.heap.size w'.heap.size 30 29 v n tt ∧ cont tt = cont ss ∧ Below w.heap.size w w' := by
  obtain ⟨hn, hx, hl, hs⟩ := R
  have hE := World.ownsRow_made (e := 30) (size := 1) w #[] 0 (Nat.le_refl _) (by unfold maxLen; omega) rfl
  have hb0 : Below w.heap.size w (w.alloc (.cells #[] 30)) := below_new _ _
  go_enter Try.func27, Try.ntmps27
  go_wp2_with fail
  go_loopw [3, 9] (fun v i wr => ∃ (k : Nat) (tt : List Sl), k ≤ n ∧ i = .int .i64 k ∧ tt.length = k ∧ cont tt = (cont ss).take k ∧ wr.ownsRow w.heap.size 30 1 v k (slv tt) ∧ ElsV wr w.heap.size wr.heap.size 29 tt ∧ Below w.heap.size w wr) (fun _ i _ => n - (intOf i).toNat)
  case atStart => exact ⟨0, [], Nat.zero_le _, rfl, rfl, by simp [cont], hE, ElsV.nil _ _ _ _, hb0⟩
  case round =>
    clear hE hb0
    obtain ⟨k, tt, hk, rfl, htl, hct, hown, hels, hbel⟩ := hrel
    obtain ⟨VA, vc, rfl⟩ := own_shape hown
    by_cases hlt : k < n
    · have hkl : k < ss.length := by omega
      obtain ⟨ad, hA, hb1, hc1⟩ := (hx.below (hbel.mono hB)).sl hkl
      have RS := (hs _ (List.getElem_mem hkl)).below (hbel.mono hB)
      have hbs := hbel.size
      have HC : Hid ((cont ss).take (k + 1) = (cont ss).take k ++ [ss[k].vs]) := by
        show _ = _
        rw [List.take_succ_eq_append_getElem (by rw [cont_len]; exact hkl), cont_at hkl]
      generalize ss[k].vs = vs at *
      generalize ss[k].a = A1 at *
      generalize ss[k].c = c1 at *
      have hE1 := World.ownsRow_made (e := 29) (size := 2) wr #[] 0 (Nat.le_refl _) (by unfold maxLen; omega) rfl
      have hb3 : Below wr.heap.size wr (wr.alloc (.cells #[] 29)) := below_new _ _
      have R1 : Rd (wr.alloc (.cells #[] 29)) B A1 (fl vs) := RS.2.1.below (hb3.mono (by omega))
      have hf : (fl vs).length = vs.length * 2 := fl_len vs
      have hvl := RS.2.2.1
      obtain ⟨mv, hmv⟩ : ∃ m, m = vs.length := ⟨_, rfl⟩
      rw [← hmv] at hf hvl hc1
      have HMV := hide hmv
      have HPR : Hid (∀ (w2 : World) (A2 : Option Addr) (c2 : Nat), w2.ownsRow wr.heap.size 29 2 (.slice A2 mv c2) mv (fl vs) → Below wr.heap.size wr w2 → w2.ownsRow w.heap.size 30 1 (.slice VA k vc) k (slv tt) ∧ ElsV w2 w.heap.size w2.heap.size 29 (tt ++ [⟨A2, c2, vs⟩]) ∧ w.heap.size ≤ w2.heap.size ∧ Below w.heap.size w w2) := by
        intro w2 A2 c2 h2 hb4
        have ov : OwnV w2 wr.heap.size w2.heap.size 29 (.slice A2 mv c2) mv vs := OwnV.of h2
        refine ⟨own_grown hown hb4, (hels.below hb4 (Nat.le_refl _)).snoc (s := ⟨A2, c2, vs⟩) (hi' := w2.heap.size) ?_ hbs hb4.size, by have := hb4.size; omega, hbel.trans (hb4.mono hbs)⟩
        show OwnV _ _ _ _ (.slice A2 vs.length c2) vs.length vs
        rw [← HMV.out]; exact ov
      have HPS : Hid (∀ (w2 w5 : World) (A2 : Option Addr) (c2 : Nat) (v5 : Value), w2.ownsRow w.heap.size 30 1 (.slice VA k vc) k (slv tt) → w5.ownsRow w.heap.size 30 1 v5 (k + 1) (slv tt ++ (#[Value.slice A2 mv c2] : Array Value).toList) → Below w.heap.size w2 w5 → w2.grownBy w5 (Value.slice VA k vc).ownBlock → ElsV w2 w.heap.size w2.heap.size 29 (tt ++ [⟨A2, c2, vs⟩]) → Below w.heap.size w w2 → w5.ownsRow w.heap.size 30 1 v5 (k + 1) (slv (tt ++ [⟨A2, c2, vs⟩])) ∧ ElsV w5 w.heap.size w5.heap.size 29 (tt ++ [⟨A2, c2, vs⟩]) ∧ Below w.heap.size w w5) := by
        intro w2 w5 A2 c2 v5 h2 h5 hb5 hg5 he hb
        refine ⟨?_, (he.grown hg5 h2 Try.types_ne).wider (Nat.le_refl _) hb5.size, hb.trans hb5⟩
        have e5 : slv (tt ++ [⟨A2, c2, vs⟩]) = slv tt ++ (#[Value.slice A2 mv c2] : Array Value).toList := by rw [slv_append, HMV.out]; rfl
        rw [e5]; exact h5
      clear hown hels hx RS hs hmv
      subst hA
      go_wp2_with (first | (at_builtin; refine wpList_append_rdS Try.sliceVec rfl _ _ rfl (wr.alloc (.cells #[] 29)) wr.heap.size _ 0 [] hE1 rfl _ _ mv c1 (fl vs) rfl hf R1 (fl_one _) (by unfold maxLen; omega) (by omega) (by rw [alloc_size]; omega) ?_; intro v2 w2 hown2 hb2; rw [List.nil_append, Nat.zero_add] at hown2; obtain ⟨A2, c2, rfl⟩ : ∃ A c, v2 = .slice A mv c := own_shape hown2; have hb4 := hb3.trans hb2; have hs4 := hb4.size; have HH := hide (HPR.out w2 A2 c2 hown2 hb4); have hown4 := HH.out.1; have hbs4 := HH.out.2.2.1) | (at_builtin; refine wpList_append1K Try.sliceVecS rfl _ _ rfl w2 w.heap.size _ _ _ hown4 rfl #[.slice A2 mv c2] 1 rfl rfl (by simp [Value.oneCell']) (by omega) (by omega) hbs4 ?_; intro v5 w5 hown5 hb5 hg5; have HEE := hide (HPS.out w2 w5 A2 c2 _ hown4 hown5 hb5 hg5 HH.out.2.1 HH.out.2.2.2)))
      go_roundw
      case rel => exact ⟨k + 1, tt ++ [⟨A2, c2, vs⟩], by omega, by go_num, by simp [htl], by rw [HC.out, ← hct]; simp [cont], HEE.out.1, HEE.out.2.1, HEE.out.2.2⟩
      case measure => simp [intOf]; omega
    · obtain rfl : k = n := by omega
      have e2 : cont tt = cont ss := by rw [hct, List.take_of_length_le (by rw [cont_len]; omega)]
      have HO := hide (OwnSS.mk' (OwnR.of_row hown (Nat.le_refl _)) hels Try.types_ne)
      clear hown hels hx hs
      go_wp2_with fail
      go_ret
      exact ⟨_, tt, rfl, HO.out, e2, hbel⟩
end Go.Proofs.Ytocllmaikngoaaa

/-
  The reference's scenes: contracts (3): l10Copy. A scene that is only read.
-/



namespace Go.Proofs.Ytocllmaikngoaaa
open Go.RowKit
set_option linter.unusedVariables false
/-- append to an empty slice that has no room, as a step of a region that draws its order: nothing that was there turns -/
theorem step_append_new {P : Program} {t e : TypeId} {size bytes : Nat} (T : SliceOf P t e size bytes) {ops : Array Oper} {o : Oper} {a : Act} {K : Act → World → Prop} {Q : Exit → Act → World → Prop} {E : Prop}
    (hgd : o.guard = none) (s x : Operand) (ho : o.op = .call { callee := .builtin .append, args := #[s, x], argTypes := #[t, t] })
    (W : World) (g base : Nat) (hbox : Box W g e #[]) (hs : a.eval s = .slice (some ⟨g, 0, none⟩) 0 0)
    (B : Nat) (A : Option Addr) (m c : Nat) (news : List Value) (hx : a.eval x = .slice A m c) (hl : news.length = m * size) (R : Rd W B A news) (h1 : ∀ u ∈ news, u.oneCell' = true)
    (h63 : m ≤ maxLen) (hn : m * bytes ≤ 140737488355328) (hbg : base ≤ g) (hbase : base ≤ W.heap.size)
    (h : ∀ v' w', w'.ownsRow base e size v' m news → Below W.heap.size W w' → K (a.put o.dst v') w') :
    if Region.wanted o (yielded ops a.tmps) = true then Oper.wp P o a W K Q else E := by
  obtain ⟨ht, i, z, hi, hz, hsize, hby, hzs, hsz⟩ := T
  have hw : Region.wanted o (yielded ops a.tmps) = true := by simp [Region.wanted, hgd]
  by_cases hm : m = 0
  · subst hm
    have hnil : news = [] := List.eq_nil_of_length_eq_zero (by omega)
    subst hnil
    have hown : W.ownsRow base e size (.slice (some ⟨g, 0, none⟩) 0 0) 0 [] := ⟨by simp, .inr ⟨g, 0, #[], rfl, hbg, hbox, Nat.le_refl _, by unfold maxLen; omega, by simp, by simp⟩⟩
    have hK := h (.slice (some ⟨g, 0, none⟩) 0 0) W hown (Below.refl _ _)
    cases A with
    | none =>
      rw [if_pos hw]
      have hrun := run_append_nilc (P := P) (w := W) base t o.type e i size ht hi _ 0 [] hown c
      unfold Oper.wp
      simp [execOp, ho, resolve, invoke, builtin, hs, hx, hrun, Result.andThen]
      exact hK
    | some ad =>
      refine step_append_room hgd s x t ho e i size ht hi hsize g 0 0 0 hs ad 0 c [] hx (by simp) (fun j u hu => by simp at hu) (fun u hu => by simp at hu) (Nat.le_refl _) (fun j hj => by simp at hj) ?_
      exact hK
  · cases A with
    | none =>
      rcases R with e1 | ⟨ad, e1, _⟩
      · subst e1
        have : m * size = 0 := hl.symm
        rcases Nat.mul_eq_zero.1 this with h0 | h0
        · exact absurd h0 hm
        · omega
      · cases e1
    | some ad =>
      rw [if_pos hw]
      have hcell : ∀ j u, news[j]? = some u → W.cell? (ad.add j) = some u := by
        intro j u hu
        rcases R with e1 | ⟨ad', e1, _, hc⟩
        · subst e1; simp at hu
        · injection e1 with e1; subst e1; exact hc j u hu
      obtain ⟨v', w', hrun, r1, r2⟩ := run_append_arg_grows (P := P) W t o.type e i z size bytes ht hi hz hsize hby hzs hsz ⟨g, 0, none⟩ 0 0 [] (by simp) (fun j u hu => by simp at hu) ad m c news hl hcell (by omega) (by omega) (by simpa using hn)
      rw [List.nil_append, Nat.zero_add] at r1
      unfold Oper.wp
      simp [execOp, ho, resolve, invoke, builtin, hs, hx, hrun, Result.andThen]
      exact h v' w' (own_lower r1 hbase) (grown_below r2 (fun k hk => by cases hk) (Nat.le_refl _))
/-- seven cells that are the scene S, its lists of one's own, in blocks from lo up to hi; of whether they lie apart nothing is said -/
def SOwn0 (w : World) (lo hi : Nat) (ES EV : TypeId) (v0 v1 v2 v3 v4 v5 v6 : Value) (S : Scn) : Prop :=
  ∃ RA rc OA oc TA tc os, F7 v0 v1 v2 v3 v4 v5 v6 S RA rc OA oc TA tc ∧ OwnV w lo hi EV (.slice RA S.r.length rc) S.r.length S.r ∧ (OwnR w lo hi ES (.slice OA S.o.length oc) S.o.length os ∧ (∀ s ∈ os, OwnV w lo hi EV s.v s.vs.length s.vs) ∧ cont os = S.o) ∧ OwnV w lo hi EV (.slice TA S.t.length tc) S.t.length S.t
def SRes0 (ES EV : TypeId) (w w' : World) (e : Ending) (S : Scn) : Prop :=
  ∃ v0 v1 v2 v3 v4 v5 v6, e = .returned (.agg #[v0, v1, v2, v3, v4, v5, v6]) ∧ SOwn0 w' w.heap.size w'.heap.size ES EV v0 v1 v2 v3 v4 v5 v6 S ∧ Below w.heap.size w w'
def SResB0 (ES EV : TypeId) (w w' : World) (e : Ending) (S : Scn) (b : Bool) : Prop :=
  ∃ v0 v1 v2 v3 v4 v5 v6, e = .returned (.tuple #[.agg #[v0, v1, v2, v3, v4, v5, v6], .bool b]) ∧ SOwn0 w' w.heap.size w'.heap.size ES EV v0 v1 v2 v3 v4 v5 v6 S ∧ Below w.heap.size w w'
section
variable {w w' W : World} {B lo hi lo' hi' g : Nat} {ES EV E : TypeId} {v0 v1 v2 v3 v4 v5 v6 x0 x1 x2 x3 x4 x5 x6 : Value} {S : Scn}
theorem SOwn0.below (h : SOwn0 w lo hi ES EV v0 v1 v2 v3 v4 v5 v6 S) (hb : Below B w w') (hh : hi ≤ B) : SOwn0 w' lo hi ES EV v0 v1 v2 v3 v4 v5 v6 S := by
  obtain ⟨RA, rc, OA, oc, TA, tc, os, f, r, o, t⟩ := h
  exact ⟨RA, rc, OA, oc, TA, tc, os, f, r.below hb hh, ⟨o.1.below hb hh, fun s hs => (o.2.1 s hs).below hb hh, o.2.2⟩, t.below hb hh⟩
theorem SOwn0.aside (h : SOwn0 w lo hi ES EV v0 v1 v2 v3 v4 v5 v6 S) (ha : Aside lo' hi' w w') (hd : hi ≤ lo' ∨ hi' ≤ lo) : SOwn0 w' lo hi ES EV v0 v1 v2 v3 v4 v5 v6 S := by
  obtain ⟨RA, rc, OA, oc, TA, tc, os, f, r, o, t⟩ := h
  exact ⟨RA, rc, OA, oc, TA, tc, os, f, r.aside ha hd, ⟨o.1.aside ha hd, fun s hs => (o.2.1 s hs).aside ha hd, o.2.2⟩, t.aside ha hd⟩
theorem SOwn0.wider (h : SOwn0 w lo hi ES EV v0 v1 v2 v3 v4 v5 v6 S) (hl : lo' ≤ lo) (hh : hi ≤ hi') : SOwn0 w lo' hi' ES EV v0 v1 v2 v3 v4 v5 v6 S := by
  obtain ⟨RA, rc, OA, oc, TA, tc, os, f, r, o, t⟩ := h
  exact ⟨RA, rc, OA, oc, TA, tc, os, f, r.wider hl hh, ⟨o.1.wider hl hh, fun s hs => (o.2.1 s hs).wider hl hh, o.2.2⟩, t.wider hl hh⟩
theorem SOwn0.form (h : SOwn0 w lo hi ES EV v0 v1 v2 v3 v4 v5 v6 S) : ∃ RA rc OA oc TA tc, F7 v0 v1 v2 v3 v4 v5 v6 S RA rc OA oc TA tc := by
  obtain ⟨RA, rc, OA, oc, TA, tc, os, f, _⟩ := h
  exact ⟨RA, rc, OA, oc, TA, tc, f⟩
theorem SOwn0.in_ (h : SOwn0 w lo hi ES EV v0 v1 v2 v3 v4 v5 v6 S) (f : SFit S) (x : wf4 S) (hs : SShort S) (hh : hi ≤ B) : SIn w B v0 v1 v2 v3 v4 v5 v6 S := by
  obtain ⟨RA, rc, OA, oc, TA, tc, os, f7, r, o, t⟩ := h
  refine ⟨RA, rc, OA, oc, TA, tc, os, f7, ⟨rfl, r.rdB hh, hs.1, f.2.2.2.1⟩, ⟨⟨o.1.len, o.1.rdB hh, hs.2.1, fun s hs' => ?_⟩, o.2.2⟩, ⟨rfl, t.rdB hh, hs.2.2.1, f.2.2.2.2.2⟩, x⟩
  have hm : s.vs ∈ S.o := by rw [← o.2.2]; exact List.mem_map.2 ⟨s, hs', rfl⟩
  exact ⟨rfl, (o.2.1 s hs').rdB hh, hs.2.2.2 _ hm, (f.2.2.2.2.1 _ hm).2⟩
theorem own_box_ne {n size base k : Nat} {T : TypeId} {v : Value} {ys : List Value} {cs : Array Value} (h : w.ownsRow base E size v n ys) (k' : Box w g T cs) (hne : E ≠ T) (hk : v.ownBlock = some k) : k ≠ g := by
  intro e
  subst e
  rcases h.2 with ⟨rfl, _⟩ | ⟨b, c, cur, rfl, _, hb, _⟩
  · simp [Value.ownBlock] at hk
  · simp [Value.ownBlock] at hk
    subst hk
    have k' : w.heap[b]? = some (.cells cs T (0, 0)) := k'
    rw [hb] at k'
    injection k' with e
    injection e with _ e _
    exact hne e
theorem SOwn0.keptBox {T : TypeId} {cs : Array Value} (h : SOwn0 w lo hi ES EV v0 v1 v2 v3 v4 v5 v6 S) (k : Box w g T cs) (h1 : ES ≠ T) (h2 : EV ≠ T) (ha : Aside g (g + 1) w w') : SOwn0 w' lo hi ES EV v0 v1 v2 v3 v4 v5 v6 S := by
  obtain ⟨RA, rc, OA, oc, TA, tc, os, f, r, o, t⟩ := h
  have kp : ∀ {v : Value} {n : Nat} {vs : List V2}, OwnV w lo hi EV v n vs → OwnV w' lo hi EV v n vs := fun {v n vs} o =>
    o.kept fun b hb => ha.block b (o.1.lt b hb).2 (by have := own_box_ne o.1 k h2 hb; omega)
  exact ⟨RA, rc, OA, oc, TA, tc, os, f, kp r, ⟨o.1.kept fun b hb => ha.block b (o.1.1.lt b hb).2 (by have := own_box_ne o.1.1 k h1 hb; omega), fun s hs => kp (o.2.1 s hs), o.2.2⟩, kp t⟩
theorem ret_scn0 (k : Box W g E #[x0, x1, x2, x3, x4, x5, x6]) (o : SOwn0 W lo hi ES EV v0 v1 v2 v3 v4 v5 v6 S) (hb : Below w.heap.size w W) (hg : w.heap.size ≤ g) (hl : w.heap.size ≤ lo) (hh : hi ≤ W.heap.size) (hd : g < lo ∨ hi ≤ g) :
    Box (set7 W g v0 v1 v2 v3 v4 v5 v6) g E #[v0, v1, v2, v3, v4, v5, v6] ∧ SOwn0 (set7 W g v0 v1 v2 v3 v4 v5 v6) w.heap.size (set7 W g v0 v1 v2 v3 v4 v5 v6).heap.size ES EV v0 v1 v2 v3 v4 v5 v6 S ∧ Below w.heap.size w (set7 W g v0 v1 v2 v3 v4 v5 v6) :=
  ⟨set7_box k, (o.aside set7_aside (by omega)).wider hl (by rw [set7_size]; exact hh), hb.trans (set7_aside.below hg hb.size)⟩
end
theorem Try.types_scn : (30 : TypeId) ≠ 33 ∧ (29 : TypeId) ≠ 33 := by decide
set_option maxRecDepth 100000 in
set_option maxHeartbeats 12800000 in
theorem spec_l10Copy (w : World) (B : Nat) (hB : B ≤ w.heap.size) {v0 v1 v2 v3 v4 v5 v6 : Value} {S : Scn} (h : SIn w B v0 v1 v2 v3 v4 v5 v6 S) :
    Calls Try.prog 24 #[.agg #[v0, v1, v2, v3, v4, v5, v6]] w fun e w' => SRes0 30 29 w w' e S := by
  obtain ⟨RA, rc, OA, oc, TA, tc, os, ⟨rfl, rfl, rfl, rfl, rfl, rfl, rfl⟩, hR, ⟨hO, hc⟩, hT, _⟩ := h
  have HRET : Hid (∀ (W : World) (rv ov tv : Value) (lo : Nat) (tt : List Sl), OwnV W lo W.heap.size 29 rv S.r.length S.r → OwnSS W lo W.heap.size 30 29 ov S.o.length tt → cont tt = cont os → OwnV W lo W.heap.size 29 tv S.t.length S.t → SOwn0 W lo W.heap.size 30 29 (.int .i64 S.lx) (.int .i64 S.ly) (.int .i64 S.hx) (.int .i64 S.hy) rv ov tv S) := by
    intro W rv ov tv lo tt q1 q2 q3 q4
    obtain ⟨RA, rc, rfl⟩ := q1.form
    obtain ⟨OA, oc, rfl⟩ := q2.form
    obtain ⟨TA, tc, rfl⟩ := q4.form
    exact ⟨_, _, _, _, _, _, tt, ⟨rfl, rfl, rfl, rfl, rfl, rfl, rfl⟩, q1, ⟨q2.1, q2.2.1, q3.trans hc⟩, q4⟩
  have HLI := hide (fun (W : World) (hb : Below w.heap.size w W) => spec_l10Lists W B (Nat.le_trans hB hb.size) OA S.o.length oc os (hO.below (hb.mono hB)))
  have HRR := hide (fun (W : World) (hb : Below w.heap.size w W) => (hR.2.1.below (hb.mono hB)))
  have HRT := hide (fun (W : World) (hb : Below w.heap.size w W) => (hT.2.1.below (hb.mono hB)))
  have hrl := hR.2.2.1
  have htl := hT.2.2.1
  have hfr : (fl S.r).length = S.r.length * 2 := fl_len _
  have hft : (fl S.t).length = S.t.length * 2 := fl_len _
  clear hR hO hT hc
  generalize hsr : S.r = rr at *
  generalize hst : S.t = st at *
  generalize S.lx = lx at *
  generalize S.ly = ly at *
  generalize S.hx = hx at *
  generalize S.hy = hy at *
  generalize rr.length = rn at *
  generalize st.length = tn at *
  generalize S.o.length = on at *
  obtain ⟨W0, hW0⟩ : ∃ W0, W0 = (w.alloc (.cells #[.int .i64 lx, .int .i64 ly, .int .i64 hx, .int .i64 hy, .slice RA rn rc, .slice OA on oc, .slice TA tn tc] 33)).alloc (.cells #[.int .i64 0, .int .i64 0, .int .i64 0, .int .i64 0, .slice none 0 0, .slice none 0 0, .slice none 0 0] 33) := ⟨_, rfl⟩
  have hT0 : Below w.heap.size w W0 := by rw [hW0]; exact below_alloc (below_new _ _) _
  have kp : Box W0 w.heap.size 33 #[.int .i64 lx, .int .i64 ly, .int .i64 hx, .int .i64 hy, .slice RA rn rc, .slice OA on oc, .slice TA tn tc] := by rw [hW0]; exact (Box.last _ _ _ rfl).alloc _
  have kr : Box W0 (w.heap.size + 1) 33 #[.int .i64 0, .int .i64 0, .int .i64 0, .int .i64 0, .slice none 0 0, .slice none 0 0, .slice none 0 0] := by rw [hW0]; exact Box.last _ _ _ (alloc_size _ _).symm
  have hs0 : w.heap.size + 2 ≤ W0.heap.size := by rw [hW0, alloc_size, alloc_size]; omega
  have HB := hide kp
  have HR := hide kr
  have HT0 := hide hT0
  have HKS := hide (fun (W : World) (hq : Below W0.heap.size W0 W) => (⟨(HB.out.below hq HB.out.lt).cell 0, (HB.out.below hq HB.out.lt).cell 1, (HB.out.below hq HB.out.lt).cell 2, (HB.out.below hq HB.out.lt).cell 3, (HB.out.below hq HB.out.lt).cell 4, (HB.out.below hq HB.out.lt).cell 5, (HB.out.below hq HB.out.lt).cell 6⟩ : W.cell? ⟨w.heap.size, 0, none⟩ = some (.int .i64 lx) ∧ W.cell? ⟨w.heap.size, 1, none⟩ = some (.int .i64 ly) ∧ W.cell? ⟨w.heap.size, 2, none⟩ = some (.int .i64 hx) ∧ W.cell? ⟨w.heap.size, 3, none⟩ = some (.int .i64 hy) ∧ W.cell? ⟨w.heap.size, 4, none⟩ = some (.slice RA rn rc) ∧ W.cell? ⟨w.heap.size, 5, none⟩ = some (.slice OA on oc) ∧ W.cell? ⟨w.heap.size, 6, none⟩ = some (.slice TA tn tc)))
  have HKT := hide (fun (W : World) (hq : Below W0.heap.size W0 W) (x0 x1 x2 x3 x4 x5 x6 : Value) => (⟨((((((((HB.out.below hq HB.out.lt).setv (show w.heap.size ≠ w.heap.size + 1 by omega) 0 x0).setv (show w.heap.size ≠ w.heap.size + 1 by omega) 1 x1).setv (show w.heap.size ≠ w.heap.size + 1 by omega) 2 x2).setv (show w.heap.size ≠ w.heap.size + 1 by omega) 3 x3).setv (show w.heap.size ≠ w.heap.size + 1 by omega) 4 x4).setv (show w.heap.size ≠ w.heap.size + 1 by omega) 5 x5).setv (show w.heap.size ≠ w.heap.size + 1 by omega) 6 x6).cell 0, ((((((((HB.out.below hq HB.out.lt).setv (show w.heap.size ≠ w.heap.size + 1 by omega) 0 x0).setv (show w.heap.size ≠ w.heap.size + 1 by omega) 1 x1).setv (show w.heap.size ≠ w.heap.size + 1 by omega) 2 x2).setv (show w.heap.size ≠ w.heap.size + 1 by omega) 3 x3).setv (show w.heap.size ≠ w.heap.size + 1 by omega) 4 x4).setv (show w.heap.size ≠ w.heap.size + 1 by omega) 5 x5).setv (show w.heap.size ≠ w.heap.size + 1 by omega) 6 x6).cell 1, ((((((((HB.out.below hq HB.out.lt).setv (show w.heap.size ≠ w.heap.size + 1 by omega) 0 x0).setv (show w.heap.size ≠ w.heap.size + 1 by omega) 1 x1).setv (show w.heap.size ≠ w.heap.size + 1 by omega) 2 x2).setv (show w.heap.size ≠ w.heap.size + 1 by omega) 3 x3).setv (show w.heap.size ≠ w.heap.size + 1 by omega) 4 x4).setv (show w.heap.size ≠ w.heap.size + 1 by omega) 5 x5).setv (show w.heap.size ≠ w.heap.size + 1 by omega) 6 x6).cell 2, ((((((((HB.out.below hq HB.out.lt).setv (show w.heap.size ≠ w.heap.size + 1 by omega) 0 x0).setv (show w.heap.size ≠ w.heap.size + 1 by omega) 1 x1).setv (show w.heap.size ≠ w.heap.size + 1 by omega) 2 x2).setv (show w.heap.size ≠ w.heap.size + 1 by omega) 3 x3).setv (show w.heap.size ≠ w.heap.size + 1 by omega) 4 x4).setv (show w.heap.size ≠ w.heap.size + 1 by omega) 5 x5).setv (show w.heap.size ≠ w.heap.size + 1 by omega) 6 x6).cell 3, ((((((((HB.out.below hq HB.out.lt).setv (show w.heap.size ≠ w.heap.size + 1 by omega) 0 x0).setv (show w.heap.size ≠ w.heap.size + 1 by omega) 1 x1).setv (show w.heap.size ≠ w.heap.size + 1 by omega) 2 x2).setv (show w.heap.size ≠ w.heap.size + 1 by omega) 3 x3).setv (show w.heap.size ≠ w.heap.size + 1 by omega) 4 x4).setv (show w.heap.size ≠ w.heap.size + 1 by omega) 5 x5).setv (show w.heap.size ≠ w.heap.size + 1 by omega) 6 x6).cell 4, ((((((((HB.out.below hq HB.out.lt).setv (show w.heap.size ≠ w.heap.size + 1 by omega) 0 x0).setv (show w.heap.size ≠ w.heap.size + 1 by omega) 1 x1).setv (show w.heap.size ≠ w.heap.size + 1 by omega) 2 x2).setv (show w.heap.size ≠ w.heap.size + 1 by omega) 3 x3).setv (show w.heap.size ≠ w.heap.size + 1 by omega) 4 x4).setv (show w.heap.size ≠ w.heap.size + 1 by omega) 5 x5).setv (show w.heap.size ≠ w.heap.size + 1 by omega) 6 x6).cell 5, ((((((((HB.out.below hq HB.out.lt).setv (show w.heap.size ≠ w.heap.size + 1 by omega) 0 x0).setv (show w.heap.size ≠ w.heap.size + 1 by omega) 1 x1).setv (show w.heap.size ≠ w.heap.size + 1 by omega) 2 x2).setv (show w.heap.size ≠ w.heap.size + 1 by omega) 3 x3).setv (show w.heap.size ≠ w.heap.size + 1 by omega) 4 x4).setv (show w.heap.size ≠ w.heap.size + 1 by omega) 5 x5).setv (show w.heap.size ≠ w.heap.size + 1 by omega) 6 x6).cell 6⟩ : (((((((W.setCell ⟨w.heap.size + 1, 0, none⟩ x0).setCell ⟨w.heap.size + 1, 1, none⟩ x1).setCell ⟨w.heap.size + 1, 2, none⟩ x2).setCell ⟨w.heap.size + 1, 3, none⟩ x3).setCell ⟨w.heap.size + 1, 4, none⟩ x4).setCell ⟨w.heap.size + 1, 5, none⟩ x5).setCell ⟨w.heap.size + 1, 6, none⟩ x6).cell? ⟨w.heap.size, 0, none⟩ = some (.int .i64 lx) ∧ (((((((W.setCell ⟨w.heap.size + 1, 0, none⟩ x0).setCell ⟨w.heap.size + 1, 1, none⟩ x1).setCell ⟨w.heap.size + 1, 2, none⟩ x2).setCell ⟨w.heap.size + 1, 3, none⟩ x3).setCell ⟨w.heap.size + 1, 4, none⟩ x4).setCell ⟨w.heap.size + 1, 5, none⟩ x5).setCell ⟨w.heap.size + 1, 6, none⟩ x6).cell? ⟨w.heap.size, 1, none⟩ = some (.int .i64 ly) ∧ (((((((W.setCell ⟨w.heap.size + 1, 0, none⟩ x0).setCell ⟨w.heap.size + 1, 1, none⟩ x1).setCell ⟨w.heap.size + 1, 2, none⟩ x2).setCell ⟨w.heap.size + 1, 3, none⟩ x3).setCell ⟨w.heap.size + 1, 4, none⟩ x4).setCell ⟨w.heap.size + 1, 5, none⟩ x5).setCell ⟨w.heap.size + 1, 6, none⟩ x6).cell? ⟨w.heap.size, 2, none⟩ = some (.int .i64 hx) ∧ (((((((W.setCell ⟨w.heap.size + 1, 0, none⟩ x0).setCell ⟨w.heap.size + 1, 1, none⟩ x1).setCell ⟨w.heap.size + 1, 2, none⟩ x2).setCell ⟨w.heap.size + 1, 3, none⟩ x3).setCell ⟨w.heap.size + 1, 4, none⟩ x4).setCell ⟨w.heap.size + 1, 5, none⟩ x5).setCell ⟨w.heap.size + 1, 6, none⟩ x6).cell? ⟨w.heap.size, 3, none⟩ = some (.int .i64 hy) ∧ (((((((W.setCell ⟨w.heap.size + 1, 0, none⟩ x0).setCell ⟨w.heap.size + 1, 1, none⟩ x1).setCell ⟨w.heap.size + 1, 2, none⟩ x2).setCell ⟨w.heap.size + 1, 3, none⟩ x3).setCell ⟨w.heap.size + 1, 4, none⟩ x4).setCell ⟨w.heap.size + 1, 5, none⟩ x5).setCell ⟨w.heap.size + 1, 6, none⟩ x6).cell? ⟨w.heap.size, 4, none⟩ = some (.slice RA rn rc) ∧ (((((((W.setCell ⟨w.heap.size + 1, 0, none⟩ x0).setCell ⟨w.heap.size + 1, 1, none⟩ x1).setCell ⟨w.heap.size + 1, 2, none⟩ x2).setCell ⟨w.heap.size + 1, 3, none⟩ x3).setCell ⟨w.heap.size + 1, 4, none⟩ x4).setCell ⟨w.heap.size + 1, 5, none⟩ x5).setCell ⟨w.heap.size + 1, 6, none⟩ x6).cell? ⟨w.heap.size, 5, none⟩ = some (.slice OA on oc) ∧ (((((((W.setCell ⟨w.heap.size + 1, 0, none⟩ x0).setCell ⟨w.heap.size + 1, 1, none⟩ x1).setCell ⟨w.heap.size + 1, 2, none⟩ x2).setCell ⟨w.heap.size + 1, 3, none⟩ x3).setCell ⟨w.heap.size + 1, 4, none⟩ x4).setCell ⟨w.heap.size + 1, 5, none⟩ x5).setCell ⟨w.heap.size + 1, 6, none⟩ x6).cell? ⟨w.heap.size, 6, none⟩ = some (.slice TA tn tc)))
  clear kr hT0
  go_enter Try.func24, Try.ntmps24
  go_upto_region 1 with fail
  rw [← hW0]
  clear hW0
  obtain ⟨yp0, yp1, yp2, yp3, yp4, yp5, yp6⟩ := kp.cells7
  clear kp
  go_region_held_law (fun w' => w'.cell? ⟨w.heap.size, 0, none⟩ = some (.int .i64 lx) ∧ w'.cell? ⟨w.heap.size, 1, none⟩ = some (.int .i64 ly) ∧ w'.cell? ⟨w.heap.size, 2, none⟩ = some (.int .i64 hx) ∧ w'.cell? ⟨w.heap.size, 3, none⟩ = some (.int .i64 hy) ∧ w'.cell? ⟨w.heap.size, 4, none⟩ = some (.slice RA rn rc) ∧ w'.cell? ⟨w.heap.size, 5, none⟩ = some (.slice OA on oc) ∧ w'.cell? ⟨w.heap.size, 6, none⟩ = some (.slice TA tn tc))
      (first | (with_reducible exact HKT.out _ HS3.out _ _ _ _ _ _ _) | (with_reducible exact HKS.out _ HS3.out) | (refine HKS.out _ ?_; repeat (first | (with_reducible exact Below.refl _ _) | (with_reducible exact HS2.out) | (with_reducible exact HS1.out) | (with_reducible refine Below.drew ?_) | (with_reducible refine below_alloc ?_ _))))
      (first
        | (go_at_call 27; refine (HLI.out _ (below_then HT0.out (by repeat (first | (with_reducible exact Below.refl _ _) | (with_reducible exact HS2.out) | (with_reducible exact HS1.out) | (with_reducible refine Below.drew ?_) | (with_reducible refine below_alloc ?_ _))))).mono ?_; rintro e u2 ⟨ov, tt, rfl, oO, hct, hb2⟩; obtain ⟨A3, c3, rfl⟩ := oO.form; have hz2 := hb2.size; (repeat (first | (simp only [alloc_size] at hz2) | (simp only [drew_size] at hz2))); have HS2 := hide (below_then ((by repeat (first | (with_reducible exact Below.refl _ _) | (with_reducible exact HS2.out) | (with_reducible exact HS1.out) | (with_reducible refine Below.drew ?_) | (with_reducible refine below_alloc ?_ _))) : Below W0.heap.size W0 _) hb2))
        | (refine step_append_new Try.sliceVec rfl _ _ rfl _ _ W0.heap.size ?_ rfl B RA rn rc (fl rr) rfl hfr (HRR.out _ (below_then HT0.out (by repeat (first | (with_reducible exact Below.refl _ _) | (with_reducible exact HS2.out) | (with_reducible exact HS1.out) | (with_reducible refine Below.drew ?_) | (with_reducible refine below_alloc ?_ _))))) (fl_one _) (by unfold maxLen; omega) (by omega) (by first | omega | ((repeat (first | (simp only [alloc_size]) | (simp only [drew_size]))); first | done | omega)) (by first | omega | ((repeat (first | (simp only [alloc_size]) | (simp only [drew_size]))); first | done | omega)) ?_; (focus (repeat (first | (with_reducible exact Box.last _ _ _ rfl) | (with_reducible exact Box.last1 _ _ _ _) | (with_reducible refine Box.alloc ?_ _) | (with_reducible refine Box.drew ?_)))); intro rv u1 hown1 hb1; obtain ⟨A4, c4, rfl⟩ := own_shape hown1; have hz1 := hb1.size; (repeat (first | (simp only [alloc_size] at hz1) | (simp only [drew_size] at hz1))); have HS1 := hide (below_then ((by repeat (first | (with_reducible exact Below.refl _ _) | (with_reducible exact HS2.out) | (with_reducible exact HS1.out) | (with_reducible refine Below.drew ?_) | (with_reducible refine below_alloc ?_ _))) : Below W0.heap.size W0 _) hb1))
        | (refine step_append_new Try.sliceVec rfl _ _ rfl _ _ W0.heap.size ?_ rfl B TA tn tc (fl st) rfl hft (HRT.out _ (below_then HT0.out (by repeat (first | (with_reducible exact Below.refl _ _) | (with_reducible exact HS2.out) | (with_reducible exact HS1.out) | (with_reducible refine Below.drew ?_) | (with_reducible refine below_alloc ?_ _))))) (fl_one _) (by unfold maxLen; omega) (by omega) (by first | omega | ((repeat (first | (simp only [alloc_size]) | (simp only [drew_size]))); first | done | omega)) (by first | omega | ((repeat (first | (simp only [alloc_size]) | (simp only [drew_size]))); first | done | omega)) ?_; (focus (repeat (first | (with_reducible exact Box.last _ _ _ rfl) | (with_reducible exact Box.last1 _ _ _ _) | (with_reducible refine Box.alloc ?_ _) | (with_reducible refine Box.drew ?_) | (with_reducible refine Box.below ?_ hb2 (by first | omega | ((repeat (first | (simp only [alloc_size]) | (simp only [drew_size]))); first | done | omega))) | (with_reducible refine Box.below ?_ hb1 (by first | omega | ((repeat (first | (simp only [alloc_size]) | (simp only [drew_size]))); first | done | omega)))))); intro tv u3 hown3 hb3; obtain ⟨A5, c5, rfl⟩ := own_shape hown3; have hz3 := hb3.size; (repeat (first | (simp only [alloc_size] at hz3) | (simp only [drew_size] at hz3))); have HS3 := hide (below_then ((by repeat (first | (with_reducible exact Below.refl _ _) | (with_reducible exact HS2.out) | (with_reducible exact HS1.out) | (with_reducible refine Below.drew ?_) | (with_reducible refine below_alloc ?_ _))) : Below W0.heap.size W0 _) hb3); have kR := HR.out.below HS3.out HR.out.lt; obtain ⟨t0, t1, t2, t3, t4, t5, t6⟩ := kR.cells7; obtain ⟨f0, f1, f2, f3, f4, f5, f6⟩ := kR.frz7))
  all_goals
    have oR3 : OwnV u3 W0.heap.size u3.heap.size 29 (.slice A4 rn c4) rn rr := by
      have h2 : Below u1.heap.size u1 u2 := by
        refine Below.trans ?_ (hb2.mono (by first | omega | ((repeat (first | (simp only [alloc_size]) | (simp only [drew_size]))); first | done | omega)))
        repeat (first | (with_reducible exact Below.refl _ _) | (with_reducible refine Below.drew ?_) | (with_reducible refine below_alloc ?_ _))
      have h3 : Below u2.heap.size u2 u3 := by
        refine Below.trans ?_ (hb3.mono (by first | omega | ((repeat (first | (simp only [alloc_size]) | (simp only [drew_size]))); first | done | omega)))
        repeat (first | (with_reducible exact Below.refl _ _) | (with_reducible refine Below.drew ?_) | (with_reducible refine below_alloc ?_ _))
      exact OwnV.of_row (own_grown (own_grown hown1 h2) h3) (Nat.le_refl _)
    have oT3 : OwnV u3 W0.heap.size u3.heap.size 29 (.slice A5 tn c5) tn st := OwnV.of_row hown3 (Nat.le_refl _)
    have oO3 : OwnSS u3 W0.heap.size u3.heap.size 30 29 (.slice A3 on c3) on tt := by
      have h3 : Below u2.heap.size u2 u3 := by
        refine Below.trans ?_ (hb3.mono (by first | omega | ((repeat (first | (simp only [alloc_size]) | (simp only [drew_size]))); first | done | omega)))
        repeat (first | (with_reducible exact Below.refl _ _) | (with_reducible refine Below.drew ?_) | (with_reducible refine below_alloc ?_ _))
      exact (oO.below h3 (Nat.le_refl _)).wider (by first | omega | ((repeat (first | (simp only [alloc_size]) | (simp only [drew_size]))); first | done | omega)) (by first | omega | ((repeat (first | (simp only [alloc_size]) | (simp only [drew_size]))); first | done | omega))
    have HT := hide (below_then HT0.out HS3.out)
    have HSO := hide (HRET.out _ _ _ _ _ tt oR3 oO3 hct oT3)
    clear oR3 oT3 oO3 hown1 hown3 oO hb1 hb2 hb3
    obtain ⟨r1, r2, r3⟩ := ret_scn0 (HR.out.below HS3.out HR.out.lt) HSO.out HT.out (by omega) (by omega) (Nat.le_refl _) (.inl (by omega))
    go_wp2_with fail
    refine bodyPost_ret (results_cell_row rfl _ _ (w.heap.size + 1) _ #[.int .i64 lx, .int .i64 ly, .int .i64 hx, .int .i64 hy, .slice A4 rn c4, .slice A3 on c3, .slice A5 tn c5] (0, 0) _ rfl r1 Try.underlying33 rfl Try.sizeScn) rfl ?_
    exact ⟨_, _, _, _, _, _, _, rfl, r2, r3⟩
end Go.Proofs.Ytocllmaikngoaaa
