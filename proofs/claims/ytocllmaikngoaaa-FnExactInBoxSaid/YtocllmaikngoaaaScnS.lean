/-
  Scenes in memory: seven cells, three lists; what is readable, what is the call's own; results that are scenes.
-/
import Derived.Test.YtocllmaikngoaaaScnL
import Derived.Test.YtocllmaikngoaaaScnP
namespace Go.Proofs.Ytocllmaikngoaaa
open Go.RowKit
set_option linter.unusedVariables false
/-- its lists are short enough to be handed on, its numbers are ints -/
def SFit (S : Scn) : Prop :=
  S.r.length ≤ 1048577 ∧ S.o.length ≤ 2097152 ∧ S.t.length ≤ 1048577 ∧ wfV S.r ∧ (∀ l ∈ S.o, l.length ≤ 1048577 ∧ wfV l) ∧ wfV S.t
def wf4 (S : Scn) : Prop := ((Lit.int .i64 S.lx).wf = true ∧ (Lit.int .i64 S.ly).wf = true) ∧ (Lit.int .i64 S.hx).wf = true ∧ (Lit.int .i64 S.hy).wf = true
/-- the forms of seven cells -/
def F7 (v0 v1 v2 v3 v4 v5 v6 : Value) (S : Scn) (RA : Option Addr) (rc : Nat) (OA : Option Addr) (oc : Nat) (TA : Option Addr) (tc : Nat) : Prop :=
  v0 = .int .i64 S.lx ∧ v1 = .int .i64 S.ly ∧ v2 = .int .i64 S.hx ∧ v3 = .int .i64 S.hy ∧ v4 = .slice RA S.r.length rc ∧ v5 = .slice OA S.o.length oc ∧ v6 = .slice TA S.t.length tc
/-- seven cells that are the scene S, its lists readable below block B -/
def SIn (w : World) (B : Nat) (v0 v1 v2 v3 v4 v5 v6 : Value) (S : Scn) : Prop :=
  ∃ RA rc OA oc TA tc os, F7 v0 v1 v2 v3 v4 v5 v6 S RA rc OA oc TA tc ∧ RdV w B RA S.r.length S.r ∧ (RdS w B OA S.o.length os ∧ cont os = S.o) ∧ RdV w B TA S.t.length S.t ∧ wf4 S
/-- seven cells that are the scene S, its lists of one's own, apart, in blocks from lo up to hi -/
def SOwn (w : World) (lo hi : Nat) (ES EV : TypeId) (v0 v1 v2 v3 v4 v5 v6 : Value) (S : Scn) : Prop :=
  ∃ RA rc OA oc TA tc os r0 r1 o0 o1 t0 t1, F7 v0 v1 v2 v3 v4 v5 v6 S RA rc OA oc TA tc ∧ OwnV w r0 r1 EV (.slice RA S.r.length rc) S.r.length S.r ∧ (OwnSS w o0 o1 ES EV (.slice OA S.o.length oc) S.o.length os ∧ cont os = S.o) ∧ OwnV w t0 t1 EV (.slice TA S.t.length tc) S.t.length S.t ∧
    lo ≤ r0 ∧ lo ≤ o0 ∧ lo ≤ t0 ∧ r1 ≤ hi ∧ o1 ≤ hi ∧ t1 ≤ hi ∧ (r1 ≤ o0 ∨ o1 ≤ r0) ∧ (r1 ≤ t0 ∨ t1 ≤ r0) ∧ (o1 ≤ t0 ∨ t1 ≤ o0)
section
variable {w w' : World} {B B' lo hi lo' hi' g : Nat} {ES EV : TypeId} {v0 v1 v2 v3 v4 v5 v6 : Value} {S : Scn}
theorem SIn.below (h : SIn w B v0 v1 v2 v3 v4 v5 v6 S) (hb : Below B w w') : SIn w' B v0 v1 v2 v3 v4 v5 v6 S := by
  obtain ⟨RA, rc, OA, oc, TA, tc, os, f, r, o, t, x⟩ := h
  exact ⟨RA, rc, OA, oc, TA, tc, os, f, r.below hb, ⟨o.1.below hb, o.2⟩, t.below hb, x⟩
theorem SIn.wider (h : SIn w B v0 v1 v2 v3 v4 v5 v6 S) (hB : B ≤ B') : SIn w B' v0 v1 v2 v3 v4 v5 v6 S := by
  obtain ⟨RA, rc, OA, oc, TA, tc, os, f, r, o, t, x⟩ := h
  exact ⟨RA, rc, OA, oc, TA, tc, os, f, r.wider hB, ⟨o.1.wider hB, o.2⟩, t.wider hB, x⟩
theorem SIn.up (h : SIn w w.heap.size v0 v1 v2 v3 v4 v5 v6 S) (hb : Below w.heap.size w w') : SIn w' w'.heap.size v0 v1 v2 v3 v4 v5 v6 S := (h.below hb).wider hb.size
theorem SIn.fit (h : SIn w B v0 v1 v2 v3 v4 v5 v6 S) : SFit S ∧ wf4 S := by
  obtain ⟨RA, rc, OA, oc, TA, tc, os, f, r, o, t, x⟩ := h
  refine ⟨⟨by have := r.2.2.1; omega, by have := o.1.2.2.1; omega, by have := t.2.2.1; omega, r.2.2.2, fun l hl => ?_, t.2.2.2⟩, x⟩
  rw [← o.2] at hl
  obtain ⟨s, hs, rfl⟩ := List.mem_map.1 hl
  have := o.1.2.2.2 s hs
  exact ⟨by have := this.2.2.1; omega, this.2.2.2⟩
theorem SOwn.below (h : SOwn w lo hi ES EV v0 v1 v2 v3 v4 v5 v6 S) (hb : Below B w w') (hh : hi ≤ B) : SOwn w' lo hi ES EV v0 v1 v2 v3 v4 v5 v6 S := by
  obtain ⟨RA, rc, OA, oc, TA, tc, os, r0, r1, o0, o1, t0, t1, f, r, o, t, a1, a2, a3, a4, a5, a6, d⟩ := h
  exact ⟨RA, rc, OA, oc, TA, tc, os, r0, r1, o0, o1, t0, t1, f, r.below hb (by omega), ⟨o.1.below hb (by omega), o.2⟩, t.below hb (by omega), a1, a2, a3, a4, a5, a6, d⟩
theorem SOwn.aside (h : SOwn w lo hi ES EV v0 v1 v2 v3 v4 v5 v6 S) (ha : Aside lo' hi' w w') (hd : hi ≤ lo' ∨ hi' ≤ lo) : SOwn w' lo hi ES EV v0 v1 v2 v3 v4 v5 v6 S := by
  obtain ⟨RA, rc, OA, oc, TA, tc, os, r0, r1, o0, o1, t0, t1, f, r, o, t, a1, a2, a3, a4, a5, a6, d⟩ := h
  exact ⟨RA, rc, OA, oc, TA, tc, os, r0, r1, o0, o1, t0, t1, f, r.aside ha (by omega), ⟨o.1.aside ha (by omega), o.2⟩, t.aside ha (by omega), a1, a2, a3, a4, a5, a6, d⟩
theorem SOwn.wider (h : SOwn w lo hi ES EV v0 v1 v2 v3 v4 v5 v6 S) (hl : lo' ≤ lo) (hh : hi ≤ hi') : SOwn w lo' hi' ES EV v0 v1 v2 v3 v4 v5 v6 S := by
  obtain ⟨RA, rc, OA, oc, TA, tc, os, r0, r1, o0, o1, t0, t1, f, r, o, t, a1, a2, a3, a4, a5, a6, d⟩ := h
  exact ⟨RA, rc, OA, oc, TA, tc, os, r0, r1, o0, o1, t0, t1, f, r, o, t, by omega, by omega, by omega, by omega, by omega, by omega, d⟩
theorem SOwn.setv (h : SOwn w lo hi ES EV v0 v1 v2 v3 v4 v5 v6 S) (hg : g < lo ∨ hi ≤ g) (j : Nat) (u : Value) : SOwn (w.setCell ⟨g, j, none⟩ u) lo hi ES EV v0 v1 v2 v3 v4 v5 v6 S :=
  h.aside ((Aside.refl w (lo := g) (hi := g + 1)).setCell (Nat.le_refl _) (Nat.lt_succ_self _) u) (by omega)
/-- lists of at most 2^20 elements -/
def SShort (S : Scn) : Prop := S.r.length ≤ 1048576 ∧ S.o.length ≤ 2097152 ∧ S.t.length ≤ 1048576 ∧ ∀ l ∈ S.o, l.length ≤ 1048576
theorem SOwn.in_ (h : SOwn w lo hi ES EV v0 v1 v2 v3 v4 v5 v6 S) (f : SFit S) (x : wf4 S) (hs : SShort S) (hh : hi ≤ B) : SIn w B v0 v1 v2 v3 v4 v5 v6 S := by
  obtain ⟨RA, rc, OA, oc, TA, tc, os, r0, r1, o0, o1, t0, t1, f7, r, o, t, a1, a2, a3, a4, a5, a6, d⟩ := h
  refine ⟨RA, rc, OA, oc, TA, tc, os, f7, ⟨rfl, r.rdB (by omega), hs.1, f.2.2.2.1⟩, ⟨o.1.rdS (by omega) hs.2.1 fun s hs' => ?_, o.2⟩, ⟨rfl, t.rdB (by omega), hs.2.2.1, f.2.2.2.2.2⟩, x⟩
  have hm : s.vs ∈ S.o := by rw [← o.2]; exact List.mem_map.2 ⟨s, hs', rfl⟩
  exact ⟨hs.2.2.2 _ hm, (f.2.2.2.2.1 _ hm).2⟩
variable {a b c d e f p : Value} {E : TypeId}
end
section
variable {w W : World} {g lo hi : Nat} {E ES EV : TypeId} {x0 x1 x2 x3 x4 x5 x6 v0 v1 v2 v3 v4 v5 v6 : Value} {S : Scn}
end
end Go.Proofs.Ytocllmaikngoaaa
