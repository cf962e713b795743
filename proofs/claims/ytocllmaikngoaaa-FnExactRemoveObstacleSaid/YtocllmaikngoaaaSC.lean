/-
  The texts ScnC, ScnD, put together; each has its own heading below. No condition of ours.
-/
import Derived.Test.YtocllmaikngoaaaSB
import Derived.Test.YtocllmaikngoaaaVecA
import Derived.Deep.RegionHeld3
import Derived.Sort.AtCall
/-
  Lists of lists of one's own: appended to, copied. The library's Clone at both.
-/


namespace Go.Proofs.Ytocllmaikngoaaa
open Go.RowKit
set_option linter.unusedVariables false
theorem own_shape {w : World} {base size n : Nat} {E : TypeId} {v : Value} {xs : List Value} (h : w.ownsRow base E size v n xs) : ∃ A c, v = .slice A n c := by
  rcases h.2 with ⟨rfl, rfl⟩ | ⟨g, c, cur, rfl, _⟩
  · exact ⟨_, _, rfl⟩
  · exact ⟨_, _, rfl⟩
theorem grown_below {B : Nat} {W w' : World} {row : Option Nat} (hg : W.grownBy w' row) (hr : ∀ k, row = some k → B ≤ k) (hB : B ≤ W.heap.size) : Below B W w' := (Below.refl B W).grown hg hB hr
/-- append of one element, just built: what else is kept -/
theorem wpList_append1K {P : Program} {t e : TypeId} {size bytes : Nat} (T : SliceOf P t e size bytes) {ops : Array Oper} {rest : List Oper} {o : Oper} {a : Act} {Q : Exit → Act → World → Prop}
    (hgd : o.guard = none) (s x : Operand) (ho : o.op = .call { callee := .builtin .append, args := #[s, x], argTypes := #[t, t] })
    (W : World) (base : Nat) (v : Value) (n : Nat) (xs : List Value) (hown : W.ownsRow base e size v n xs) (hs : a.eval s = v)
    (cs : Array Value) (c : Nat) (hx : a.eval x = .slice (some ⟨W.heap.size, 0, none⟩) 1 c) (hcs : cs.size = size) (h1 : ∀ u ∈ cs.toList, u.oneCell' = true)
    (hn : (n + 1) * bytes ≤ 140737488355328) (h63 : n + 1 ≤ 140737488355328) (hbase : base ≤ W.heap.size)
    (h : ∀ v' w', w'.ownsRow base e size v' (n + 1) (xs ++ cs.toList) → Below base W w' → W.grownBy w' v.ownBlock → wpList P ops Q rest (a.put o.dst v') w') :
    wpList P ops Q (o :: rest) a (W.alloc (.cells cs e)) := by
  obtain ⟨ht, i, z, hi, hz, hsize, hby, hzs, hsz⟩ := T
  refine wpList_append_own (W.alloc (.cells cs e)) hgd s x t ho base e i z size bytes ht hi hz hsize hby hzs hsz v n xs hs (hown.alloc _) ⟨W.heap.size, 0, none⟩ 1 c cs.toList hx (by simp [hcs]) ?_ h1 (by unfold maxLen; omega) hn (by simp; omega) ?_
  · intro j u hu
    have : (⟨W.heap.size, 0, none⟩ : Addr).add j = ⟨W.heap.size, j, none⟩ := by unfold Addr.add; split <;> simp_all
    rw [this, World.cell?_alloc_mark]
    simpa using hu
  · intro v' w' hown' hgrow _
    have hb := ((Below.refl W.heap.size W).alloc (Nat.le_refl _) (.cells cs e))
    have hg : W.grownBy w' v.ownBlock := ⟨hgrow.os, hgrow.tape, hgrow.output, Nat.le_trans (by rw [alloc_size]; omega) hgrow.size, fun k hk hne => (hgrow.block k (by rw [alloc_size]; omega) hne).trans (hb.block k hk)⟩
    exact h v' w' hown' (grown_below hg (fun k hk => (hown.lt k hk).1) hbase) hg
/-- rows of two types lie apart -/
theorem own_types {w : World} {b b' n n' size size' : Nat} {E E' : TypeId} {v v' : Value} {xs xs' : List Value} (h : w.ownsRow b E size v n xs) (h' : w.ownsRow b' E' size' v' n' xs') (hne : E ≠ E') {g g' : Nat} (hg : v.ownBlock = some g) (hg' : v'.ownBlock = some g') : g ≠ g' := by
  intro e
  subst e
  rcases h.2 with ⟨rfl, _⟩ | ⟨k, c, cur, rfl, _, hk, _⟩
  · simp [Value.ownBlock] at hg
  · rcases h'.2 with ⟨rfl, _⟩ | ⟨k', c', cur', rfl, _, hk', _⟩
    · simp [Value.ownBlock] at hg'
    · simp [Value.ownBlock] at hg hg'
      subst hg hg'
      rw [hk] at hk'
      injection hk' with e
      injection e with _ e _
      exact hne e
/-- lists of vectors of one's own, each in a block of its own from lo up to hi -/
def ElsV (w : World) (lo hi : Nat) (EV : TypeId) (ss : List Sl) : Prop := (∀ s ∈ ss, OwnV w lo hi EV s.v s.vs.length s.vs) ∧ (ss.filterMap fun s => s.v.ownBlock).Nodup
section
variable {w w' : World} {lo hi lo' hi' n B : Nat} {ES EV : TypeId} {v : Value} {ss tt : List Sl} {s : Sl}
theorem ElsV.nil (w : World) (lo hi : Nat) (EV : TypeId) : ElsV w lo hi EV [] := ⟨fun s hs => by simp at hs, by simp⟩
theorem ElsV.below (h : ElsV w lo hi EV ss) (hb : Below B w w') (hh : hi ≤ B) : ElsV w' lo hi EV ss := ⟨fun s hs => (h.1 s hs).below hb hh, h.2⟩
theorem ElsV.aside (h : ElsV w lo hi EV ss) (ha : Aside lo' hi' w w') (hd : hi ≤ lo' ∨ hi' ≤ lo) : ElsV w' lo hi EV ss := ⟨fun s hs => (h.1 s hs).aside ha hd, h.2⟩
theorem ElsV.wider (h : ElsV w lo hi EV ss) (hl : lo' ≤ lo) (hh : hi ≤ hi') : ElsV w lo' hi' EV ss := ⟨fun s hs => (h.1 s hs).wider hl hh, h.2⟩
theorem ElsV.kept (h : ElsV w lo hi EV ss) (hk : ∀ s ∈ ss, ∀ g, s.v.ownBlock = some g → w'.heap[g]? = w.heap[g]?) : ElsV w' lo hi EV ss := ⟨fun s hs => (h.1 s hs).kept (hk s hs), h.2⟩
theorem ElsV.lt (h : ElsV w lo hi EV ss) : ∀ s ∈ ss, ∀ g, s.v.ownBlock = some g → lo ≤ g ∧ g < hi ∧ g < w.heap.size := fun s hs g hg => ⟨((h.1 s hs).1.lt g hg).1, (h.1 s hs).2 g hg, ((h.1 s hs).1.lt g hg).2⟩
/-- the row of slices grows -/
theorem ElsV.grown {xs : List Value} {base : Nat} (h : ElsV w lo hi EV ss) (hg : w.grownBy w' v.ownBlock) (ho : w.ownsRow base ES 1 v n xs) (hne : ES ≠ EV) : ElsV w' lo hi EV ss :=
  h.kept fun s hs g hg' => hg.block g (h.lt s hs g hg').2.2 fun e => own_types ho (h.1 s hs).1 hne e.symm hg' rfl
theorem ElsV.snoc (h : ElsV w lo hi EV ss) (o : OwnV w hi hi' EV s.v s.vs.length s.vs) (hl : lo ≤ hi) (hh : hi ≤ hi') : ElsV w lo hi' EV (ss ++ [s]) := by
  refine ⟨fun u hu => ?_, ?_⟩
  · rcases List.mem_append.1 hu with hu | hu
    · exact (h.1 u hu).wider (Nat.le_refl _) hh
    · rw [List.mem_singleton.1 hu]; exact o.wider hl (Nat.le_refl _)
  · rw [List.filterMap_append, List.nodup_append]
    refine ⟨h.2, by cases hs : s.v.ownBlock <;> simp [hs], fun a ha b hb => ?_⟩
    obtain ⟨u, hu, hua⟩ := List.mem_filterMap.1 ha
    have h1 := (h.lt u hu a hua).2.1
    have h2 : s.v.ownBlock = some b := by simpa using hb
    have := (o.1.lt b h2).1
    omega
theorem ElsV.append (h : ElsV w lo hi EV ss) (k : ElsV w hi hi' EV tt) (hl : lo ≤ hi) (hh : hi ≤ hi') : ElsV w lo hi' EV (ss ++ tt) := by
  refine ⟨fun u hu => ?_, ?_⟩
  · rcases List.mem_append.1 hu with hu | hu
    · exact (h.1 u hu).wider (Nat.le_refl _) hh
    · exact (k.1 u hu).wider hl (Nat.le_refl _)
  · rw [List.filterMap_append, List.nodup_append]
    refine ⟨h.2, k.2, fun a ha b hb => ?_⟩
    obtain ⟨u, hu, hua⟩ := List.mem_filterMap.1 ha
    obtain ⟨t, ht, htb⟩ := List.mem_filterMap.1 hb
    have h1 := (h.lt u hu a hua).2.1
    have h2 := (k.lt t ht b htb).1
    omega
theorem OwnSS.mk' (o : OwnR w lo hi ES v n ss) (h : ElsV w lo hi EV ss) (hne : ES ≠ EV) : OwnSS w lo hi ES EV v n ss := by
  refine ⟨o, h.1, ?_⟩
  unfold blks
  rw [List.nodup_append]
  refine ⟨by cases v.ownBlock <;> simp, h.2, fun a ha b hb => ?_⟩
  obtain ⟨t, ht, htb⟩ := List.mem_filterMap.1 hb
  have h2 : v.ownBlock = some a := by simpa using ha
  exact own_types o.1 (h.1 t ht).1 hne h2 htb
end
theorem Try.types_ne : (30 : TypeId) ≠ 29 := by decide
set_option maxRecDepth 100000 in
set_option maxHeartbeats 1600000 in
theorem impl_CloneV (w : World) (B : Nat) (hB : B ≤ w.heap.size) (A : Option Addr) (n c : Nat) (l : List V2) (R : RdV w B A n l) :
    Calls Try.prog 52 #[.slice A n c] w fun e w' => ∃ v, e = .returned v ∧ OwnV w' w.heap.size w'.heap.size 29 v n l ∧ Below w.heap.size w w' := by
  obtain ⟨hn, hx, hl, hwf⟩ := R
  cases A with
  | none =>
    have h0 : l = [] := by
      rcases hx with e | ⟨ad, e, _⟩
      · have := fl_len l
        rw [e] at this
        exact List.eq_nil_of_length_eq_zero (by simp at this; omega)
      · cases e
    subst h0
    have hn0 : n = 0 := by simpa using hn.symm
    subst hn0
    have hq : ∀ W, (binOp .eql 30 (.slice none 0 c) (.slice none 0 0)).run Try.prog W = .ok (.bool true) W := fun W => Lib.run_eql_slice_nil W 30 _ none 0 c 0 0 Try.underlying30
    go_enter Try.func52, Try.ntmps52
    go_wp2_with fail
    go_ret
    exact ⟨_, rfl, OwnV.nil _ _ _ _, Below.refl _ _⟩
  | some ad =>
    have hE := World.ownsRow_made (e := 29) (size := 2) w #[] 0 (Nat.le_refl _) (by unfold maxLen; omega) rfl
    have hb3 : Below w.heap.size w (w.alloc (.cells #[] 29)) := below_new _ _
    have R1 : Rd (w.alloc (.cells #[] 29)) w.heap.size (some ad) (fl l) := (hx.wider hB).below hb3
    have hf : (fl l).length = n * 2 := by rw [fl_len, hn]
    have hq : ∀ W, (binOp .eql 30 (.slice (some ad) n c) (.slice none 0 0)).run Try.prog W = .ok (.bool false) W := fun W => Lib.run_eql_slice_nil W 30 _ (some ad) n c 0 0 Try.underlying30
    go_enter Try.func52, Try.ntmps52
    go_wp2_with (at_builtin; refine wpList_append_rdS Try.sliceVec rfl _ _ rfl (w.alloc (.cells #[] 29)) w.heap.size _ 0 [] hE rfl _ _ n c (fl l) rfl hf R1 (fl_one _) (by unfold maxLen; omega) (by omega) (by rw [alloc_size]; omega) ?_; intro v4 w4 hown4 hb4)
    go_ret
    rw [List.nil_append, Nat.zero_add] at hown4
    exact ⟨_, rfl, OwnV.of hown4, hb3.trans hb4⟩
set_option maxRecDepth 100000 in
set_option maxHeartbeats 1600000 in
theorem impl_CloneS (w : World) (B : Nat) (hB : B ≤ w.heap.size) (A : Option Addr) (n c : Nat) (ss : List Sl) (R : RdS w B A n ss) :
    Calls Try.prog 34 #[.slice A n c] w fun e w' => ∃ v, e = .returned v ∧ OwnR w' w.heap.size w'.heap.size 30 v n ss ∧ Below w.heap.size w w' := by
  obtain ⟨hn, hx, hl, hs⟩ := R
  cases A with
  | none =>
    have h0 : ss = [] := by
      rcases hx with e | ⟨ad, e, _⟩
      · have := slv_len ss
        rw [e] at this
        exact List.eq_nil_of_length_eq_zero (by simp at this; omega)
      · cases e
    subst h0
    have hn0 : n = 0 := by simpa using hn.symm
    subst hn0
    have hq : ∀ W, (binOp .eql 31 (.slice none 0 c) (.slice none 0 0)).run Try.prog W = .ok (.bool true) W := fun W => Lib.run_eql_slice_nil W 31 _ none 0 c 0 0 Try.underlying31
    go_enter Try.func34, Try.ntmps34
    go_wp2_with fail
    go_ret
    exact ⟨_, rfl, OwnR.nil _ _ _ _, Below.refl _ _⟩
  | some ad =>
    have hE := World.ownsRow_made (e := 30) (size := 1) w #[] 0 (Nat.le_refl _) (by unfold maxLen; omega) rfl
    have hb3 : Below w.heap.size w (w.alloc (.cells #[] 30)) := below_new _ _
    have R1 : Rd (w.alloc (.cells #[] 30)) w.heap.size (some ad) (slv ss) := (hx.wider hB).below hb3
    have hf : (slv ss).length = n * 1 := by rw [slv_len, hn]; omega
    have hq : ∀ W, (binOp .eql 31 (.slice (some ad) n c) (.slice none 0 0)).run Try.prog W = .ok (.bool false) W := fun W => Lib.run_eql_slice_nil W 31 _ (some ad) n c 0 0 Try.underlying31
    clear hs
    go_enter Try.func34, Try.ntmps34
    go_wp2_with (at_builtin; refine wpList_append_rdS Try.sliceVecS rfl _ _ rfl (w.alloc (.cells #[] 30)) w.heap.size _ 0 [] hE rfl _ _ n c (slv ss) rfl hf R1 (slv_one _) (by unfold maxLen; omega) (by omega) (by rw [alloc_size]; omega) ?_; intro v4 w4 hown4 hb4)
    go_ret
    rw [List.nil_append, Nat.zero_add] at hown4
    exact ⟨_, rfl, OwnR.of hown4, hb3.trans hb4⟩
end Go.Proofs.Ytocllmaikngoaaa

/-
  The program's scenes: contracts (2): copied.
-/



namespace Go.Proofs.Ytocllmaikngoaaa
open Go.RowKit
set_option linter.unusedVariables false
/-- one list of a row replaced by its copy -/
theorem sl_set {tt ss : List Sl} {k : Nat} {s : Sl} (ht : tt.length = k) (hk : k < ss.length) : (slv (tt ++ ss.drop k)).set k s.v = slv ((tt ++ [s]) ++ ss.drop (k + 1)) := by
  rw [slv_append, slv_append, List.set_append_right _ _ (by rw [slv_len]; omega), slv_len, ht, Nat.sub_self, List.drop_eq_getElem_cons hk]
  show slv tt ++ (ss[k].v :: slv (ss.drop (k + 1))).set 0 s.v = _
  rw [List.set_cons_zero, slv_append, List.append_assoc]
  rfl
theorem sl_get {tt ss : List Sl} {k : Nat} (ht : tt.length = k) (hk : k < ss.length) : (slv (tt ++ ss.drop k))[k]? = some ss[k].v := by
  rw [slv_append, List.getElem?_append_right (by rw [slv_len]; omega), slv_len, ht, Nat.sub_self, List.drop_eq_getElem_cons hk]
  rfl
set_option maxRecDepth 100000 in
set_option maxHeartbeats 6400000 in
theorem impl_scnCopied (w : World) (B : Nat) (hB : B ≤ w.heap.size) {v0 v1 v2 v3 v4 v5 v6 : Value} {S : Scn} (h : SIn w B v0 v1 v2 v3 v4 v5 v6 S) :
    Calls Try.prog 31 #[.agg #[v0, v1, v2, v3, v4, v5, v6]] w fun e w' => SRes 30 29 w w' e S := by
  obtain ⟨RA, rc, OA, oc, TA, tc, os, ⟨rfl, rfl, rfl, rfl, rfl, rfl, rfl⟩, hR, ⟨hO, hc⟩, hT, _⟩ := h
  have HRET : Hid (∀ (W : World) (a b c d e f : Nat) (rv ov tv : Value) (tt : List Sl), OwnV W a b 29 rv S.r.length S.r → OwnSS W c d 30 29 ov S.o.length tt → cont tt = cont os → OwnV W e f 29 tv S.t.length S.t → w.heap.size + 2 ≤ c → d ≤ a → b ≤ e → f ≤ W.heap.size → c ≤ d → a ≤ b → e ≤ f → ∃ RA rc OA oc TA tc, (rv = .slice RA S.r.length rc ∧ ov = .slice OA S.o.length oc ∧ tv = .slice TA S.t.length tc) ∧ SOwn W (w.heap.size + 2) W.heap.size 30 29 (.int .i64 S.lx) (.int .i64 S.ly) (.int .i64 S.hx) (.int .i64 S.hy) rv ov tv S) := by
    intro W a b c d e f rv ov tv tt q1 q2 q3 q4 d1 d2 d3 d4 d5 d6 d7
    obtain ⟨RA, rc, rfl⟩ := q1.form
    obtain ⟨OA, oc, rfl⟩ := q2.form
    obtain ⟨TA, tc, rfl⟩ := q4.form
    exact ⟨_, _, _, _, _, _, ⟨rfl, rfl, rfl⟩, _, _, _, _, _, _, tt, _, _, _, _, _, _, ⟨rfl, rfl, rfl, rfl, rfl, rfl, rfl⟩, q1, ⟨q2, q3.trans hc⟩, q4, by omega, by omega, by omega, by omega, by omega, by omega, .inr (by omega), .inl (by omega), .inl (by omega)⟩
  have HO := hide (fun (W : World) (hb : Below w.heap.size w W) => impl_CloneS W B (Nat.le_trans hB hb.size) OA S.o.length oc os (hO.below (hb.mono hB)))
  have HOS := hide hO
  have HCR := hide (fun (W : World) (hb : Below w.heap.size w W) => impl_CloneV W B (Nat.le_trans hB hb.size) RA S.r.length rc S.r (hR.below (hb.mono hB)))
  have HCT := hide (fun (W : World) (hb : Below w.heap.size w W) => impl_CloneV W B (Nat.le_trans hB hb.size) TA S.t.length tc S.t (hT.below (hb.mono hB)))
  have hol := hO.1
  have hoc : os.length ≤ 2097152 := by have := hO.2.2.1; omega
  clear hR hO hT hc
  generalize hsr : S.r = rr at *
  generalize hst : S.t = st at *
  generalize S.lx = lx at *
  generalize S.ly = ly at *
  generalize S.hx = hx at *
  generalize S.hy = hy at *
  generalize rr.length = rn at *
  generalize st.length = tn at *
  generalize S.o.length = on at *
  obtain ⟨W0, hW0⟩ : ∃ W0, W0 = (w.alloc (.cells #[.int .i64 lx, .int .i64 ly, .int .i64 hx, .int .i64 hy, .slice RA rn rc, .slice OA on oc, .slice TA tn tc] 33)).alloc (.cells #[.int .i64 0, .int .i64 0, .int .i64 0, .int .i64 0, .slice none 0 0, .slice none 0 0, .slice none 0 0] 33) := ⟨_, rfl⟩
  have hT0 : Below w.heap.size w W0 := by rw [hW0]; exact below_alloc (below_new _ _) _
  have kp : Box W0 w.heap.size 33 #[.int .i64 lx, .int .i64 ly, .int .i64 hx, .int .i64 hy, .slice RA rn rc, .slice OA on oc, .slice TA tn tc] := by rw [hW0]; exact (Box.last _ _ _ rfl).alloc _
  have kr : Box W0 (w.heap.size + 1) 33 #[.int .i64 0, .int .i64 0, .int .i64 0, .int .i64 0, .slice none 0 0, .slice none 0 0, .slice none 0 0] := by rw [hW0]; exact Box.last _ _ _ (alloc_size _ _).symm
  have hs0 : w.heap.size + 2 ≤ W0.heap.size := by rw [hW0, alloc_size, alloc_size]; omega
  go_enter Try.func31, Try.ntmps31
  go_upto_region 1 with fail
  rw [← hW0]
  clear hW0
  obtain ⟨yp0, yp1, yp2, yp3, yp4, yp5, yp6⟩ := kp.cells7
  go_wp2_with fail
  refine (HO.out _ hT0).mono ?_
  rintro e w1 ⟨v3, rfl, oR, hb1⟩
  clear yp0 yp1 yp2 yp3 yp4 yp5 yp6 HO
  obtain ⟨A3, c3, rfl⟩ := oR.form
  have hs1 := hb1.size
  have hT1 := below_then hT0 hb1
  have kp := kp.below hb1 kp.lt
  have kr := kr.below hb1 kr.lt
  clear hb1 hT0
  go_wp2_with fail
  go_loopw [11] (fun i wr => ∃ (k : Nat) (tt : List Sl), k ≤ on ∧ i = .int .i64 k ∧ tt.length = k ∧ cont tt = (cont os).take k ∧ OwnR wr W0.heap.size w1.heap.size 30 (.slice A3 on c3) on (tt ++ os.drop k) ∧ ElsV wr w1.heap.size wr.heap.size 29 tt ∧ Below W0.heap.size w1 wr) (fun i _ => on - (intOf i).toNat)
  case atStart => exact ⟨0, [], Nat.zero_le _, rfl, rfl, by simp [cont], by simpa using oR, ElsV.nil _ _ _ _, Below.refl _ _⟩
  case round =>
    clear oR
    obtain ⟨k, tt, hk, rfl, htl, hct, hR, hE, hbel⟩ := hrel
    have hT2 : Below w.heap.size w wr := hT1.trans (hbel.mono (by omega))
    have hbs := hbel.size
    by_cases hlt : k < on
    · have hkl : k < os.length := by omega
      rcases own_form hR.1 with ⟨hv, h0, _⟩ | ⟨g, c', hv, hg1, hg2⟩
      · omega
      injection hv with e1 e2 e3
      subst e1 e3
      have hgl : g < w1.heap.size := hR.2 g rfl
      have hc1 : wr.cell? ⟨g, k, none⟩ = some (.slice os[k].a os[k].vs.length os[k].c) := (hR.1.cellAt k (by omega)).trans (sl_get htl hkl)
      have HV := hide (impl_CloneV wr B (by omega) os[k].a os[k].vs.length os[k].c os[k].vs ((HOS.out.2.2.2 _ (List.getElem_mem hkl)).below (hT2.mono hB)))
      have HC : Hid ((cont os).take (k + 1) = (cont os).take k ++ [os[k].vs]) := by
        show _ = _
        rw [List.take_succ_eq_append_getElem (by rw [cont_len]; exact hkl), cont_at hkl]
      have HSS := hide (fun (s : Sl) => sl_set (s := s) htl hkl)
      generalize os[k].vs = vs at *
      generalize os[k].a = A1 at *
      generalize os[k].c = c1 at *
      have HH := hide (And.intro hR hE)
      clear hR hE
      go_wp2_with fail
      refine HV.out.mono ?_
      rintro e w2 ⟨v, rfl, ov, hb2⟩
      obtain ⟨A2, c2, rfl⟩ := ov.form
      have hs2 := hb2.size
      obtain ⟨hR, hE⟩ := HH.out
      have hR2 := hR.below hb2 (by omega)
      obtain ⟨h1, h2⟩ := hR2.1.stored k (.slice A2 vs.length c2)
      have e4 := HSS.out ⟨A2, c2, vs⟩
      have e4 : (slv (tt ++ os.drop k)).set k (.slice A2 vs.length c2) = slv (tt ++ [⟨A2, c2, vs⟩] ++ os.drop (k + 1)) := e4
      rw [e4] at h1
      have hf1 := hR2.1.frozenAt k
      obtain ⟨u1, hu1⟩ : ∃ u, w2.cell? ⟨g, k, none⟩ = some u := ⟨_, (hR2.1.cellAt k (by omega)).trans (sl_get htl hkl)⟩
      have hset : Aside W0.heap.size w1.heap.size w2 (w2.setCell ⟨g, k, none⟩ (.slice A2 vs.length c2)) := (Aside.refl _).setCell (a := ⟨g, k, none⟩) hg1 hgl _
      have hE2 : ElsV (w2.setCell ⟨g, k, none⟩ (.slice A2 vs.length c2)) w1.heap.size w2.heap.size 29 (tt ++ [⟨A2, c2, vs⟩]) := ((hE.below hb2 (Nat.le_refl _)).aside hset (.inr (Nat.le_refl _))).snoc (ov.aside hset (.inr (by omega))) (by omega) hs2
      have H1 := hide (And.intro (show OwnR (w2.setCell ⟨g, k, none⟩ (.slice A2 vs.length c2)) W0.heap.size w1.heap.size 30 (.slice (some ⟨g, 0, none⟩) on c3) on (tt ++ [⟨A2, c2, vs⟩] ++ os.drop (k + 1)) from ⟨h1, hR.2⟩) (And.intro (hE2.wider (hi' := (w2.setCell ⟨g, k, none⟩ (.slice A2 vs.length c2)).heap.size) (Nat.le_refl _) (by rw [setCell_size]; exact Nat.le_refl _)) ((hbel.trans (hb2.mono (by omega))).setCell (p := ⟨g, k, none⟩) hg1 (.slice A2 vs.length c2))))
      clear h1 h2 e4 hset hE2 hR hE hR2 HH HSS ov hb2 HV hc1
      go_wp2_with fail
      go_roundw
      case rel => exact ⟨k + 1, tt ++ [⟨A2, c2, vs⟩], by omega, by go_num, by simp [htl], by rw [HC.out, ← hct]; simp [cont], H1.out.1, H1.out.2.1, H1.out.2.2⟩
      case measure => simp [intOf]; omega
    · obtain rfl : k = on := by omega
      have e1 : tt ++ os.drop k = tt := by rw [List.drop_of_length_le (by omega), List.append_nil]
      rw [e1] at hR
      have e2 : cont tt = cont os := by rw [hct, List.take_of_length_le (by rw [cont_len]; omega)]
      have HOO := hide (And.intro (OwnSS.mk' (hR.wider (lo' := W0.heap.size) (hi' := wr.heap.size) (Nat.le_refl _) (by omega)) (hE.wider (lo' := W0.heap.size) (by omega) (Nat.le_refl _)) Try.types_ne) e2)
      clear e1 e2 hR hE hct HOS
      have hbw : Below W0.heap.size w1 wr := hbel
      have kp := kp.below hbw (by omega)
      have kr := kr.below hbw (by omega)
      have hwr : W0.heap.size ≤ wr.heap.size := by omega
      clear hbel hbw hT1 hs1 hbs
      have HB := hide kp
      have HR := hide kr
      have HS0 : Hid (Below wr.heap.size wr wr.drew) := (Below.refl _ _).drew
      have HKS := hide (fun (W : World) (hq : Below wr.heap.size wr W) => (⟨(HB.out.below hq HB.out.lt).cell 0, (HB.out.below hq HB.out.lt).cell 1, (HB.out.below hq HB.out.lt).cell 2, (HB.out.below hq HB.out.lt).cell 3, (HB.out.below hq HB.out.lt).cell 4, (HB.out.below hq HB.out.lt).cell 5, (HB.out.below hq HB.out.lt).cell 6⟩ : W.cell? ⟨w.heap.size, 0, none⟩ = some (.int .i64 lx) ∧ W.cell? ⟨w.heap.size, 1, none⟩ = some (.int .i64 ly) ∧ W.cell? ⟨w.heap.size, 2, none⟩ = some (.int .i64 hx) ∧ W.cell? ⟨w.heap.size, 3, none⟩ = some (.int .i64 hy) ∧ W.cell? ⟨w.heap.size, 4, none⟩ = some (.slice RA rn rc) ∧ W.cell? ⟨w.heap.size, 5, none⟩ = some (.slice OA k oc) ∧ W.cell? ⟨w.heap.size, 6, none⟩ = some (.slice TA tn tc)))
      have HKT := hide (fun (W : World) (hq : Below wr.heap.size wr W) (x0 x1 x2 x3 x4 x5 x6 : Value) => (⟨((((((((HB.out.below hq HB.out.lt).setv (show w.heap.size ≠ w.heap.size + 1 by omega) 0 x0).setv (show w.heap.size ≠ w.heap.size + 1 by omega) 1 x1).setv (show w.heap.size ≠ w.heap.size + 1 by omega) 2 x2).setv (show w.heap.size ≠ w.heap.size + 1 by omega) 3 x3).setv (show w.heap.size ≠ w.heap.size + 1 by omega) 4 x4).setv (show w.heap.size ≠ w.heap.size + 1 by omega) 5 x5).setv (show w.heap.size ≠ w.heap.size + 1 by omega) 6 x6).cell 0, ((((((((HB.out.below hq HB.out.lt).setv (show w.heap.size ≠ w.heap.size + 1 by omega) 0 x0).setv (show w.heap.size ≠ w.heap.size + 1 by omega) 1 x1).setv (show w.heap.size ≠ w.heap.size + 1 by omega) 2 x2).setv (show w.heap.size ≠ w.heap.size + 1 by omega) 3 x3).setv (show w.heap.size ≠ w.heap.size + 1 by omega) 4 x4).setv (show w.heap.size ≠ w.heap.size + 1 by omega) 5 x5).setv (show w.heap.size ≠ w.heap.size + 1 by omega) 6 x6).cell 1, ((((((((HB.out.below hq HB.out.lt).setv (show w.heap.size ≠ w.heap.size + 1 by omega) 0 x0).setv (show w.heap.size ≠ w.heap.size + 1 by omega) 1 x1).setv (show w.heap.size ≠ w.heap.size + 1 by omega) 2 x2).setv (show w.heap.size ≠ w.heap.size + 1 by omega) 3 x3).setv (show w.heap.size ≠ w.heap.size + 1 by omega) 4 x4).setv (show w.heap.size ≠ w.heap.size + 1 by omega) 5 x5).setv (show w.heap.size ≠ w.heap.size + 1 by omega) 6 x6).cell 2, ((((((((HB.out.below hq HB.out.lt).setv (show w.heap.size ≠ w.heap.size + 1 by omega) 0 x0).setv (show w.heap.size ≠ w.heap.size + 1 by omega) 1 x1).setv (show w.heap.size ≠ w.heap.size + 1 by omega) 2 x2).setv (show w.heap.size ≠ w.heap.size + 1 by omega) 3 x3).setv (show w.heap.size ≠ w.heap.size + 1 by omega) 4 x4).setv (show w.heap.size ≠ w.heap.size + 1 by omega) 5 x5).setv (show w.heap.size ≠ w.heap.size + 1 by omega) 6 x6).cell 3, ((((((((HB.out.below hq HB.out.lt).setv (show w.heap.size ≠ w.heap.size + 1 by omega) 0 x0).setv (show w.heap.size ≠ w.heap.size + 1 by omega) 1 x1).setv (show w.heap.size ≠ w.heap.size + 1 by omega) 2 x2).setv (show w.heap.size ≠ w.heap.size + 1 by omega) 3 x3).setv (show w.heap.size ≠ w.heap.size + 1 by omega) 4 x4).setv (show w.heap.size ≠ w.heap.size + 1 by omega) 5 x5).setv (show w.heap.size ≠ w.heap.size + 1 by omega) 6 x6).cell 4, ((((((((HB.out.below hq HB.out.lt).setv (show w.heap.size ≠ w.heap.size + 1 by omega) 0 x0).setv (show w.heap.size ≠ w.heap.size + 1 by omega) 1 x1).setv (show w.heap.size ≠ w.heap.size + 1 by omega) 2 x2).setv (show w.heap.size ≠ w.heap.size + 1 by omega) 3 x3).setv (show w.heap.size ≠ w.heap.size + 1 by omega) 4 x4).setv (show w.heap.size ≠ w.heap.size + 1 by omega) 5 x5).setv (show w.heap.size ≠ w.heap.size + 1 by omega) 6 x6).cell 5, ((((((((HB.out.below hq HB.out.lt).setv (show w.heap.size ≠ w.heap.size + 1 by omega) 0 x0).setv (show w.heap.size ≠ w.heap.size + 1 by omega) 1 x1).setv (show w.heap.size ≠ w.heap.size + 1 by omega) 2 x2).setv (show w.heap.size ≠ w.heap.size + 1 by omega) 3 x3).setv (show w.heap.size ≠ w.heap.size + 1 by omega) 4 x4).setv (show w.heap.size ≠ w.heap.size + 1 by omega) 5 x5).setv (show w.heap.size ≠ w.heap.size + 1 by omega) 6 x6).cell 6⟩ : (((((((W.setCell ⟨w.heap.size + 1, 0, none⟩ x0).setCell ⟨w.heap.size + 1, 1, none⟩ x1).setCell ⟨w.heap.size + 1, 2, none⟩ x2).setCell ⟨w.heap.size + 1, 3, none⟩ x3).setCell ⟨w.heap.size + 1, 4, none⟩ x4).setCell ⟨w.heap.size + 1, 5, none⟩ x5).setCell ⟨w.heap.size + 1, 6, none⟩ x6).cell? ⟨w.heap.size, 0, none⟩ = some (.int .i64 lx) ∧ (((((((W.setCell ⟨w.heap.size + 1, 0, none⟩ x0).setCell ⟨w.heap.size + 1, 1, none⟩ x1).setCell ⟨w.heap.size + 1, 2, none⟩ x2).setCell ⟨w.heap.size + 1, 3, none⟩ x3).setCell ⟨w.heap.size + 1, 4, none⟩ x4).setCell ⟨w.heap.size + 1, 5, none⟩ x5).setCell ⟨w.heap.size + 1, 6, none⟩ x6).cell? ⟨w.heap.size, 1, none⟩ = some (.int .i64 ly) ∧ (((((((W.setCell ⟨w.heap.size + 1, 0, none⟩ x0).setCell ⟨w.heap.size + 1, 1, none⟩ x1).setCell ⟨w.heap.size + 1, 2, none⟩ x2).setCell ⟨w.heap.size + 1, 3, none⟩ x3).setCell ⟨w.heap.size + 1, 4, none⟩ x4).setCell ⟨w.heap.size + 1, 5, none⟩ x5).setCell ⟨w.heap.size + 1, 6, none⟩ x6).cell? ⟨w.heap.size, 2, none⟩ = some (.int .i64 hx) ∧ (((((((W.setCell ⟨w.heap.size + 1, 0, none⟩ x0).setCell ⟨w.heap.size + 1, 1, none⟩ x1).setCell ⟨w.heap.size + 1, 2, none⟩ x2).setCell ⟨w.heap.size + 1, 3, none⟩ x3).setCell ⟨w.heap.size + 1, 4, none⟩ x4).setCell ⟨w.heap.size + 1, 5, none⟩ x5).setCell ⟨w.heap.size + 1, 6, none⟩ x6).cell? ⟨w.heap.size, 3, none⟩ = some (.int .i64 hy) ∧ (((((((W.setCell ⟨w.heap.size + 1, 0, none⟩ x0).setCell ⟨w.heap.size + 1, 1, none⟩ x1).setCell ⟨w.heap.size + 1, 2, none⟩ x2).setCell ⟨w.heap.size + 1, 3, none⟩ x3).setCell ⟨w.heap.size + 1, 4, none⟩ x4).setCell ⟨w.heap.size + 1, 5, none⟩ x5).setCell ⟨w.heap.size + 1, 6, none⟩ x6).cell? ⟨w.heap.size, 4, none⟩ = some (.slice RA rn rc) ∧ (((((((W.setCell ⟨w.heap.size + 1, 0, none⟩ x0).setCell ⟨w.heap.size + 1, 1, none⟩ x1).setCell ⟨w.heap.size + 1, 2, none⟩ x2).setCell ⟨w.heap.size + 1, 3, none⟩ x3).setCell ⟨w.heap.size + 1, 4, none⟩ x4).setCell ⟨w.heap.size + 1, 5, none⟩ x5).setCell ⟨w.heap.size + 1, 6, none⟩ x6).cell? ⟨w.heap.size, 5, none⟩ = some (.slice OA k oc) ∧ (((((((W.setCell ⟨w.heap.size + 1, 0, none⟩ x0).setCell ⟨w.heap.size + 1, 1, none⟩ x1).setCell ⟨w.heap.size + 1, 2, none⟩ x2).setCell ⟨w.heap.size + 1, 3, none⟩ x3).setCell ⟨w.heap.size + 1, 4, none⟩ x4).setCell ⟨w.heap.size + 1, 5, none⟩ x5).setCell ⟨w.heap.size + 1, 6, none⟩ x6).cell? ⟨w.heap.size, 6, none⟩ = some (.slice TA tn tc)))
      have HT2 := hide hT2
      clear hT2
      obtain ⟨yp0, yp1, yp2, yp3, yp4, yp5, yp6⟩ := kp.cells7
      go_upto_region 7 with fail
      go_region_held3 (fun w' => w'.cell? ⟨w.heap.size, 0, none⟩ = some (.int .i64 lx) ∧ w'.cell? ⟨w.heap.size, 1, none⟩ = some (.int .i64 ly) ∧ w'.cell? ⟨w.heap.size, 2, none⟩ = some (.int .i64 hx) ∧ w'.cell? ⟨w.heap.size, 3, none⟩ = some (.int .i64 hy) ∧ w'.cell? ⟨w.heap.size, 4, none⟩ = some (.slice RA rn rc) ∧ w'.cell? ⟨w.heap.size, 5, none⟩ = some (.slice OA k oc) ∧ w'.cell? ⟨w.heap.size, 6, none⟩ = some (.slice TA tn tc))
          (first | (with_reducible exact HKT.out _ HS2.out _ _ _ _ _ _ _) | (with_reducible exact HKS.out _ HS2.out) | (with_reducible exact HKS.out _ HS1.out) | (with_reducible exact HKS.out _ HS0.out))
          (first
            | (go_at_call 52; have HX := HS1.out; refine (HCT.out _ (below_then HT2.out HX)).mono ?_; rintro e u2 ⟨tv, rfl, oT, hb2⟩; obtain ⟨A5, c5, rfl⟩ := oT.form; have oR' := oR'.below hb2 (Nat.le_refl _); have hz2 := hb2.size; have HS2 := hide (below_then HX hb2); clear HX; have kR := HR.out.below HS2.out HR.out.lt; obtain ⟨t0, t1, t2, t3, t4, t5, t6⟩ := kR.cells7; obtain ⟨f0, f1, f2, f3, f4, f5, f6⟩ := kR.frz7)
            | (go_at_call 52; have HX := HS0.out; refine (HCR.out _ (below_then HT2.out HX)).mono ?_; rintro e u1 ⟨rv, rfl, oR', hb1⟩; obtain ⟨A4, c4, rfl⟩ := oR'.form; have hz1 : wr.heap.size ≤ u1.heap.size := hb1.size; have HS1 := hide (below_then HX hb1); clear HX))
      have HT := hide (below_then HT2.out HS2.out)
      have oO := HOO.out.1.below HS2.out (Nat.le_refl _)
      have HRT := hide (HRET.out _ _ _ _ _ _ _ _ _ _ tt oR' oO HOO.out.2 oT (by omega) (Nat.le_refl _) (Nat.le_refl _) (Nat.le_refl _) (by omega) hz1 hz2)
      clear oR' oO oT
      obtain ⟨qA, qa, qB, qb, qC, qc, ⟨qe1, qe2, qe3⟩, HSO⟩ := HRT.out
      go_wp2_with fail
      obtain ⟨r1, r2, r3⟩ := ret_scn (HR.out.below HS2.out HR.out.lt) HSO HT.out (by omega) (by omega) (Nat.le_refl _) (.inl (by omega))
      refine bodyPost_ret (results_cell_row rfl _ _ (w.heap.size + 1) _ #[.int .i64 lx, .int .i64 ly, .int .i64 hx, .int .i64 hy, .slice A4 rn c4, .slice A3 k c3, .slice A5 tn c5] (0, 0) _ rfl r1 Try.underlying33 rfl Try.sizeScn) rfl ?_
      exact ⟨_, _, _, _, _, _, _, rfl, r2, r3⟩
end Go.Proofs.Ytocllmaikngoaaa
