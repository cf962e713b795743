/-
  The texts ScnP, ScnS, ScnC, put together; each has its own heading below. No condition of ours.
-/
import Derived.Test.YtdcceppednngjaaSA
import Derived.Test.YtdcceppednngjaaPolI
import Derived.Test.YtdcceppednngjaaHM
import Derived.Test.YtdcceppednngjaaPI
import Derived.Test.YtdcceppednngjaaLB
import Derived.Test.YtdcceppednngjaaVecM
import Derived.Test.YtdcceppednngjaaPB
/-
  Scenes: plain: which are valid, their text, what is made of them.
-/



namespace Go.Proofs.Ytdcceppednngjaa
open Go.RowKit
set_option linter.unusedVariables false
structure Scn where
  lx : Int
  ly : Int
  hx : Int
  hy : Int
  r : List V2
  o : List (List V2)
  t : List V2
end Go.Proofs.Ytdcceppednngjaa

/-
  Scenes in memory: seven cells, three lists; what is readable, what is the call's own; results that are scenes.
-/


namespace Go.Proofs.Ytdcceppednngjaa
open Go.RowKit
set_option linter.unusedVariables false
def wf4 (S : Scn) : Prop := ((Lit.int .i64 S.lx).wf = true ∧ (Lit.int .i64 S.ly).wf = true) ∧ (Lit.int .i64 S.hx).wf = true ∧ (Lit.int .i64 S.hy).wf = true
/-- the forms of seven cells -/
def F7 (v0 v1 v2 v3 v4 v5 v6 : Value) (S : Scn) (RA : Option Addr) (rc : Nat) (OA : Option Addr) (oc : Nat) (TA : Option Addr) (tc : Nat) : Prop :=
  v0 = .int .i64 S.lx ∧ v1 = .int .i64 S.ly ∧ v2 = .int .i64 S.hx ∧ v3 = .int .i64 S.hy ∧ v4 = .slice RA S.r.length rc ∧ v5 = .slice OA S.o.length oc ∧ v6 = .slice TA S.t.length tc
/-- seven cells that are the scene S, its lists readable below block B -/
def SIn (w : World) (B : Nat) (v0 v1 v2 v3 v4 v5 v6 : Value) (S : Scn) : Prop :=
  ∃ RA rc OA oc TA tc os, F7 v0 v1 v2 v3 v4 v5 v6 S RA rc OA oc TA tc ∧ RdV w B RA S.r.length S.r ∧ (RdS w B OA S.o.length os ∧ cont os = S.o) ∧ RdV w B TA S.t.length S.t ∧ wf4 S
/-- seven cells that are the scene S, its lists of one's own, apart, in blocks from lo up to hi -/
def SOwn (w : World) (lo hi : Nat) (ES EV : TypeId) (v0 v1 v2 v3 v4 v5 v6 : Value) (S : Scn) : Prop :=
  ∃ RA rc OA oc TA tc os r0 r1 o0 o1 t0 t1, F7 v0 v1 v2 v3 v4 v5 v6 S RA rc OA oc TA tc ∧ OwnV w r0 r1 EV (.slice RA S.r.length rc) S.r.length S.r ∧ (OwnSS w o0 o1 ES EV (.slice OA S.o.length oc) S.o.length os ∧ cont os = S.o) ∧ OwnV w t0 t1 EV (.slice TA S.t.length tc) S.t.length S.t ∧
    lo ≤ r0 ∧ lo ≤ o0 ∧ lo ≤ t0 ∧ r1 ≤ hi ∧ o1 ≤ hi ∧ t1 ≤ hi ∧ (r1 ≤ o0 ∨ o1 ≤ r0) ∧ (r1 ≤ t0 ∨ t1 ≤ r0) ∧ (o1 ≤ t0 ∨ t1 ≤ o0)
section
variable {w w' : World} {B B' lo hi lo' hi' g : Nat} {ES EV : TypeId} {v0 v1 v2 v3 v4 v5 v6 : Value} {S : Scn}
theorem SIn.below (h : SIn w B v0 v1 v2 v3 v4 v5 v6 S) (hb : Below B w w') : SIn w' B v0 v1 v2 v3 v4 v5 v6 S := by
  obtain ⟨RA, rc, OA, oc, TA, tc, os, f, r, o, t, x⟩ := h
  exact ⟨RA, rc, OA, oc, TA, tc, os, f, r.below hb, ⟨o.1.below hb, o.2⟩, t.below hb, x⟩
theorem SIn.wider (h : SIn w B v0 v1 v2 v3 v4 v5 v6 S) (hB : B ≤ B') : SIn w B' v0 v1 v2 v3 v4 v5 v6 S := by
  obtain ⟨RA, rc, OA, oc, TA, tc, os, f, r, o, t, x⟩ := h
  exact ⟨RA, rc, OA, oc, TA, tc, os, f, r.wider hB, ⟨o.1.wider hB, o.2⟩, t.wider hB, x⟩
theorem SIn.up (h : SIn w w.heap.size v0 v1 v2 v3 v4 v5 v6 S) (hb : Below w.heap.size w w') : SIn w' w'.heap.size v0 v1 v2 v3 v4 v5 v6 S := (h.below hb).wider hb.size
theorem SOwn.below (h : SOwn w lo hi ES EV v0 v1 v2 v3 v4 v5 v6 S) (hb : Below B w w') (hh : hi ≤ B) : SOwn w' lo hi ES EV v0 v1 v2 v3 v4 v5 v6 S := by
  obtain ⟨RA, rc, OA, oc, TA, tc, os, r0, r1, o0, o1, t0, t1, f, r, o, t, a1, a2, a3, a4, a5, a6, d⟩ := h
  exact ⟨RA, rc, OA, oc, TA, tc, os, r0, r1, o0, o1, t0, t1, f, r.below hb (by omega), ⟨o.1.below hb (by omega), o.2⟩, t.below hb (by omega), a1, a2, a3, a4, a5, a6, d⟩
theorem SOwn.aside (h : SOwn w lo hi ES EV v0 v1 v2 v3 v4 v5 v6 S) (ha : Aside lo' hi' w w') (hd : hi ≤ lo' ∨ hi' ≤ lo) : SOwn w' lo hi ES EV v0 v1 v2 v3 v4 v5 v6 S := by
  obtain ⟨RA, rc, OA, oc, TA, tc, os, r0, r1, o0, o1, t0, t1, f, r, o, t, a1, a2, a3, a4, a5, a6, d⟩ := h
  exact ⟨RA, rc, OA, oc, TA, tc, os, r0, r1, o0, o1, t0, t1, f, r.aside ha (by omega), ⟨o.1.aside ha (by omega), o.2⟩, t.aside ha (by omega), a1, a2, a3, a4, a5, a6, d⟩
theorem SOwn.form (h : SOwn w lo hi ES EV v0 v1 v2 v3 v4 v5 v6 S) : ∃ RA rc OA oc TA tc, F7 v0 v1 v2 v3 v4 v5 v6 S RA rc OA oc TA tc := by
  obtain ⟨RA, rc, OA, oc, TA, tc, os, r0, r1, o0, o1, t0, t1, f, _⟩ := h
  exact ⟨RA, rc, OA, oc, TA, tc, f⟩
theorem SIn.form (h : SIn w B v0 v1 v2 v3 v4 v5 v6 S) : ∃ RA rc OA oc TA tc, F7 v0 v1 v2 v3 v4 v5 v6 S RA rc OA oc TA tc := by
  obtain ⟨RA, rc, OA, oc, TA, tc, os, f, _⟩ := h
  exact ⟨RA, rc, OA, oc, TA, tc, f⟩
variable {a b c d e f p : Value} {E : TypeId}
end
section
variable {w W : World} {g lo hi : Nat} {E ES EV : TypeId} {x0 x1 x2 x3 x4 x5 x6 v0 v1 v2 v3 v4 v5 v6 : Value} {S : Scn}
end
end Go.Proofs.Ytdcceppednngjaa

/-
  Lists of lists of one's own: appended to, copied. The library's Clone at both.
-/


namespace Go.Proofs.Ytdcceppednngjaa
open Go.RowKit
set_option linter.unusedVariables false
theorem own_shape {w : World} {base size n : Nat} {E : TypeId} {v : Value} {xs : List Value} (h : w.ownsRow base E size v n xs) : ∃ A c, v = .slice A n c := by
  rcases h.2 with ⟨rfl, rfl⟩ | ⟨g, c, cur, rfl, _⟩
  · exact ⟨_, _, rfl⟩
  · exact ⟨_, _, rfl⟩
theorem grown_below {B : Nat} {W w' : World} {row : Option Nat} (hg : W.grownBy w' row) (hr : ∀ k, row = some k → B ≤ k) (hB : B ≤ W.heap.size) : Below B W w' := (Below.refl B W).grown hg hB hr
/-- append of one element, just built: what else is kept -/
theorem wpList_append1K {P : Program} {t e : TypeId} {size bytes : Nat} (T : SliceOf P t e size bytes) {ops : Array Oper} {rest : List Oper} {o : Oper} {a : Act} {Q : Exit → Act → World → Prop}
    (hgd : o.guard = none) (s x : Operand) (ho : o.op = .call { callee := .builtin .append, args := #[s, x], argTypes := #[t, t] })
    (W : World) (base : Nat) (v : Value) (n : Nat) (xs : List Value) (hown : W.ownsRow base e size v n xs) (hs : a.eval s = v)
    (cs : Array Value) (c : Nat) (hx : a.eval x = .slice (some ⟨W.heap.size, 0, none⟩) 1 c) (hcs : cs.size = size) (h1 : ∀ u ∈ cs.toList, u.oneCell' = true)
    (hn : (n + 1) * bytes ≤ 140737488355328) (h63 : n + 1 ≤ 140737488355328) (hbase : base ≤ W.heap.size)
    (h : ∀ v' w', w'.ownsRow base e size v' (n + 1) (xs ++ cs.toList) → Below base W w' → W.grownBy w' v.ownBlock → wpList P ops Q rest (a.put o.dst v') w') :
    wpList P ops Q (o :: rest) a (W.alloc (.cells cs e)) := by
  obtain ⟨ht, i, z, hi, hz, hsize, hby, hzs, hsz⟩ := T
  refine wpList_append_own (W.alloc (.cells cs e)) hgd s x t ho base e i z size bytes ht hi hz hsize hby hzs hsz v n xs hs (hown.alloc _) ⟨W.heap.size, 0, none⟩ 1 c cs.toList hx (by simp [hcs]) ?_ h1 (by unfold maxLen; omega) hn (by simp; omega) ?_
  · intro j u hu
    have : (⟨W.heap.size, 0, none⟩ : Addr).add j = ⟨W.heap.size, j, none⟩ := by unfold Addr.add; split <;> simp_all
    rw [this, World.cell?_alloc_mark]
    simpa using hu
  · intro v' w' hown' hgrow _
    have hb := ((Below.refl W.heap.size W).alloc (Nat.le_refl _) (.cells cs e))
    have hg : W.grownBy w' v.ownBlock := ⟨hgrow.os, hgrow.tape, hgrow.output, Nat.le_trans (by rw [alloc_size]; omega) hgrow.size, fun k hk hne => (hgrow.block k (by rw [alloc_size]; omega) hne).trans (hb.block k hk)⟩
    exact h v' w' hown' (grown_below hg (fun k hk => (hown.lt k hk).1) hbase) hg
/-- append of a list that can be read: what else is kept -/
theorem wpList_append_rdK {P : Program} {t e : TypeId} {size bytes : Nat} (T : SliceOf P t e size bytes) {ops : Array Oper} {rest : List Oper} {o : Oper} {a : Act} {Q : Exit → Act → World → Prop}
    (hgd : o.guard = none) (s x : Operand) (ho : o.op = .call { callee := .builtin .append, args := #[s, x], argTypes := #[t, t] })
    (W : World) (base : Nat) (v : Value) (n : Nat) (xs : List Value) (hown : W.ownsRow base e size v n xs) (hs : a.eval s = v)
    (B : Nat) (ad : Addr) (m c : Nat) (news : List Value) (hx : a.eval x = .slice (some ad) m c) (hl : news.length = m * size) (R : Rd W B (some ad) news) (h1 : ∀ u ∈ news, u.oneCell' = true)
    (h63 : n + m ≤ maxLen) (hn : (n + m) * bytes ≤ 140737488355328) (hbase : base ≤ W.heap.size)
    (h : ∀ v' w', w'.ownsRow base e size v' (n + m) (xs ++ news) → Below base W w' → W.grownBy w' v.ownBlock → wpList P ops Q rest (a.put o.dst v') w') :
    wpList P ops Q (o :: rest) a W := by
  obtain ⟨ht, i, z, hi, hz, hsize, hby, hzs, hsz⟩ := T
  refine wpList_append_own W hgd s x t ho base e i z size bytes ht hi hz hsize hby hzs hsz v n xs hs hown ad m c news hx hl ?_ h1 h63 hn hbase ?_
  · intro j u hu
    rcases R with e | ⟨ad', e, _, hc⟩
    · subst e; simp at hu
    · injection e with e
      subst e
      exact hc j u hu
  · intro v' w' hown' hgrow _
    exact h v' w' hown' (grown_below hgrow (fun k hk => (hown.lt k hk).1) hbase) hgrow
/-- lists of vectors of one's own, each in a block of its own from lo up to hi -/
def ElsV (w : World) (lo hi : Nat) (EV : TypeId) (ss : List Sl) : Prop := (∀ s ∈ ss, OwnV w lo hi EV s.v s.vs.length s.vs) ∧ (ss.filterMap fun s => s.v.ownBlock).Nodup
section
variable {w w' : World} {lo hi lo' hi' n B : Nat} {ES EV : TypeId} {v : Value} {ss tt : List Sl} {s : Sl}
theorem ElsV.nil (w : World) (lo hi : Nat) (EV : TypeId) : ElsV w lo hi EV [] := ⟨fun s hs => by simp at hs, by simp⟩
theorem ElsV.below (h : ElsV w lo hi EV ss) (hb : Below B w w') (hh : hi ≤ B) : ElsV w' lo hi EV ss := ⟨fun s hs => (h.1 s hs).below hb hh, h.2⟩
theorem ElsV.aside (h : ElsV w lo hi EV ss) (ha : Aside lo' hi' w w') (hd : hi ≤ lo' ∨ hi' ≤ lo) : ElsV w' lo hi EV ss := ⟨fun s hs => (h.1 s hs).aside ha hd, h.2⟩
theorem ElsV.lt (h : ElsV w lo hi EV ss) : ∀ s ∈ ss, ∀ g, s.v.ownBlock = some g → lo ≤ g ∧ g < hi ∧ g < w.heap.size := fun s hs g hg => ⟨((h.1 s hs).1.lt g hg).1, (h.1 s hs).2 g hg, ((h.1 s hs).1.lt g hg).2⟩
end
end Go.Proofs.Ytdcceppednngjaa
