/-
  The texts ScnP, ScnV, ScnS, ScnL3, ScnW0, put together; each has its own heading below. No condition of ours.
-/
import Derived.Test.YtocllmaikngoaaaSA
import Derived.Test.YtocllmaikngoaaaPolI
import Derived.Test.YtocllmaikngoaaaPolI3
/-
  Scenes: plain: which are valid, their text, what is made of them.
-/



namespace Go.Proofs.Ytocllmaikngoaaa
open Go.RowKit
set_option linter.unusedVariables false
structure Scn where
  lx : Int
  ly : Int
  hx : Int
  hy : Int
  r : List V2
  o : List (List V2)
  t : List V2
/-- a polygon as robots and obstacles are, with no coordinate beyond m -/
noncomputable def solB (m : Int) (l : List V2) : Bool := decide (l.length ≤ 5) && (polyB l && allIn m l)
def roomB (lx ly hx hy : Int) : Bool := inB 200 lx ly && (inB 200 hx hy && (decide (lx < hx) && decide (ly < hy)))
noncomputable def obsB (o : List (List V2)) : Bool := decide (o.length ≤ 4) && o.all (solB 200)
def tabB (t : List V2) : Bool := decide (t.length ≤ 3) && allIn 200 t
noncomputable def scnB (s : Scn) : Bool := roomB s.lx s.ly s.hx s.hy && (solB 20 s.r && (obsB s.o && tabB s.t))
/-- the scene with other obstacles -/
def withO (S : Scn) (L : List (List V2)) : Scn := { S with o := L }
/-- what becomes of a scene by other obstacles: it and the word on it -/
noncomputable def chgB (S : Scn) (L : List (List V2)) : Bool := scnB S && scnB (withO S L)
noncomputable def chgS (S : Scn) (L : List (List V2)) : Scn := if chgB S L then withO S L else S
end Go.Proofs.Ytocllmaikngoaaa

/-
  Scenes with an obstacle taken out, or another in its place: plain.
-/

namespace Go.Proofs.Ytocllmaikngoaaa
open Go.RowKit
set_option linter.unusedVariables false
/-- without the element i -/
def lessL {α : Type} (ss : List α) (i : Nat) : List α := ss.take i ++ ss.drop (i + 1)
theorem lessL_len {α : Type} {ss : List α} {i : Nat} (h : i < ss.length) : (lessL ss i).length = ss.length - 1 := by simp [lessL]; omega
theorem cont_out (ss : List Sl) (i : Nat) : cont (lessL ss i) = lessL (cont ss) i := by simp [lessL, cont]
def hasB (S : Scn) (k : Int) : Bool := decide (0 ≤ k) && decide (k < (S.o.length : Int))
noncomputable def remB (S : Scn) (k : Int) : Bool := scnB S && hasB S k
noncomputable def remS (S : Scn) (k : Int) : Scn := if remB S k then withO S (lessL S.o k.toNat) else S
theorem obsB_less {L : List (List V2)} {i : Nat} (h : obsB L = true) (hi : i < L.length) : obsB (lessL L i) = true := by
  unfold obsB at h ⊢
  simp only [Bool.and_eq_true, decide_eq_true_eq] at h ⊢
  refine ⟨by rw [lessL_len hi]; omega, List.all_eq_true.2 fun x hx => List.all_eq_true.1 h.2 x ?_⟩
  rcases List.mem_append.1 hx with hx | hx
  · exact List.mem_of_mem_take hx
  · exact List.mem_of_mem_drop hx
theorem scnB_less {S : Scn} {i : Nat} (h : scnB S = true) (hi : i < S.o.length) : scnB (withO S (lessL S.o i)) = true := by
  unfold scnB at h ⊢
  simp only [Bool.and_eq_true] at h ⊢
  exact ⟨h.1, h.2.1, obsB_less h.2.2.1 hi, h.2.2.2⟩
theorem rem_chg {S : Scn} {i : Nat} (hi : i < S.o.length) : remB S (i : Int) = chgB S (lessL S.o i) ∧ remS S (i : Int) = chgS S (lessL S.o i) := by
  have hh : hasB S (i : Int) = true := by unfold hasB; simp; omega
  have e : remB S (i : Int) = chgB S (lessL S.o i) := by
    unfold remB chgB
    rw [hh, Bool.and_true]
    cases h : scnB S with
    | false => rfl
    | true => rw [scnB_less h hi]; rfl
  refine ⟨e, ?_⟩
  unfold remS chgS
  rw [e, Int.toNat_natCast]
end Go.Proofs.Ytocllmaikngoaaa

/-
  Scenes in memory: seven cells, three lists; what is readable, what is the call's own; results that are scenes.
-/


namespace Go.Proofs.Ytocllmaikngoaaa
open Go.RowKit
set_option linter.unusedVariables false
theorem Try.sizeScn : (Try.prog.info? 33).map (·.size) = some 7 := by kernel_rfl
/-- its lists are short enough to be handed on, its numbers are ints -/
def SFit (S : Scn) : Prop :=
  S.r.length ≤ 1048577 ∧ S.o.length ≤ 2097152 ∧ S.t.length ≤ 1048577 ∧ wfV S.r ∧ (∀ l ∈ S.o, l.length ≤ 1048577 ∧ wfV l) ∧ wfV S.t
def wf4 (S : Scn) : Prop := ((Lit.int .i64 S.lx).wf = true ∧ (Lit.int .i64 S.ly).wf = true) ∧ (Lit.int .i64 S.hx).wf = true ∧ (Lit.int .i64 S.hy).wf = true
/-- the forms of seven cells -/
def F7 (v0 v1 v2 v3 v4 v5 v6 : Value) (S : Scn) (RA : Option Addr) (rc : Nat) (OA : Option Addr) (oc : Nat) (TA : Option Addr) (tc : Nat) : Prop :=
  v0 = .int .i64 S.lx ∧ v1 = .int .i64 S.ly ∧ v2 = .int .i64 S.hx ∧ v3 = .int .i64 S.hy ∧ v4 = .slice RA S.r.length rc ∧ v5 = .slice OA S.o.length oc ∧ v6 = .slice TA S.t.length tc
/-- seven cells that are the scene S, its lists readable below block B -/
def SIn (w : World) (B : Nat) (v0 v1 v2 v3 v4 v5 v6 : Value) (S : Scn) : Prop :=
  ∃ RA rc OA oc TA tc os, F7 v0 v1 v2 v3 v4 v5 v6 S RA rc OA oc TA tc ∧ RdV w B RA S.r.length S.r ∧ (RdS w B OA S.o.length os ∧ cont os = S.o) ∧ RdV w B TA S.t.length S.t ∧ wf4 S
/-- seven cells that are the scene S, its lists of one's own, apart, in blocks from lo up to hi -/
def SOwn (w : World) (lo hi : Nat) (ES EV : TypeId) (v0 v1 v2 v3 v4 v5 v6 : Value) (S : Scn) : Prop :=
  ∃ RA rc OA oc TA tc os r0 r1 o0 o1 t0 t1, F7 v0 v1 v2 v3 v4 v5 v6 S RA rc OA oc TA tc ∧ OwnV w r0 r1 EV (.slice RA S.r.length rc) S.r.length S.r ∧ (OwnSS w o0 o1 ES EV (.slice OA S.o.length oc) S.o.length os ∧ cont os = S.o) ∧ OwnV w t0 t1 EV (.slice TA S.t.length tc) S.t.length S.t ∧
    lo ≤ r0 ∧ lo ≤ o0 ∧ lo ≤ t0 ∧ r1 ≤ hi ∧ o1 ≤ hi ∧ t1 ≤ hi ∧ (r1 ≤ o0 ∨ o1 ≤ r0) ∧ (r1 ≤ t0 ∨ t1 ≤ r0) ∧ (o1 ≤ t0 ∨ t1 ≤ o0)
/-- a result that is a scene -/
def SRes (ES EV : TypeId) (w w' : World) (e : Ending) (S : Scn) : Prop :=
  ∃ v0 v1 v2 v3 v4 v5 v6, e = .returned (.agg #[v0, v1, v2, v3, v4, v5, v6]) ∧ SOwn w' w.heap.size w'.heap.size ES EV v0 v1 v2 v3 v4 v5 v6 S ∧ Below w.heap.size w w'
/-- a scene and a Bool -/
def SResB (ES EV : TypeId) (w w' : World) (e : Ending) (S : Scn) (b : Bool) : Prop :=
  ∃ v0 v1 v2 v3 v4 v5 v6, e = .returned (.tuple #[.agg #[v0, v1, v2, v3, v4, v5, v6], .bool b]) ∧ SOwn w' w.heap.size w'.heap.size ES EV v0 v1 v2 v3 v4 v5 v6 S ∧ Below w.heap.size w w'
section
variable {w w' : World} {B B' lo hi lo' hi' g : Nat} {ES EV : TypeId} {v0 v1 v2 v3 v4 v5 v6 : Value} {S : Scn}
theorem SIn.below (h : SIn w B v0 v1 v2 v3 v4 v5 v6 S) (hb : Below B w w') : SIn w' B v0 v1 v2 v3 v4 v5 v6 S := by
  obtain ⟨RA, rc, OA, oc, TA, tc, os, f, r, o, t, x⟩ := h
  exact ⟨RA, rc, OA, oc, TA, tc, os, f, r.below hb, ⟨o.1.below hb, o.2⟩, t.below hb, x⟩
theorem SIn.wider (h : SIn w B v0 v1 v2 v3 v4 v5 v6 S) (hB : B ≤ B') : SIn w B' v0 v1 v2 v3 v4 v5 v6 S := by
  obtain ⟨RA, rc, OA, oc, TA, tc, os, f, r, o, t, x⟩ := h
  exact ⟨RA, rc, OA, oc, TA, tc, os, f, r.wider hB, ⟨o.1.wider hB, o.2⟩, t.wider hB, x⟩
theorem SIn.up (h : SIn w w.heap.size v0 v1 v2 v3 v4 v5 v6 S) (hb : Below w.heap.size w w') : SIn w' w'.heap.size v0 v1 v2 v3 v4 v5 v6 S := (h.below hb).wider hb.size
theorem SIn.fit (h : SIn w B v0 v1 v2 v3 v4 v5 v6 S) : SFit S ∧ wf4 S := by
  obtain ⟨RA, rc, OA, oc, TA, tc, os, f, r, o, t, x⟩ := h
  refine ⟨⟨by have := r.2.2.1; omega, by have := o.1.2.2.1; omega, by have := t.2.2.1; omega, r.2.2.2, fun l hl => ?_, t.2.2.2⟩, x⟩
  rw [← o.2] at hl
  obtain ⟨s, hs, rfl⟩ := List.mem_map.1 hl
  have := o.1.2.2.2 s hs
  exact ⟨by have := this.2.2.1; omega, this.2.2.2⟩
theorem SOwn.below (h : SOwn w lo hi ES EV v0 v1 v2 v3 v4 v5 v6 S) (hb : Below B w w') (hh : hi ≤ B) : SOwn w' lo hi ES EV v0 v1 v2 v3 v4 v5 v6 S := by
  obtain ⟨RA, rc, OA, oc, TA, tc, os, r0, r1, o0, o1, t0, t1, f, r, o, t, a1, a2, a3, a4, a5, a6, d⟩ := h
  exact ⟨RA, rc, OA, oc, TA, tc, os, r0, r1, o0, o1, t0, t1, f, r.below hb (by omega), ⟨o.1.below hb (by omega), o.2⟩, t.below hb (by omega), a1, a2, a3, a4, a5, a6, d⟩
theorem SOwn.aside (h : SOwn w lo hi ES EV v0 v1 v2 v3 v4 v5 v6 S) (ha : Aside lo' hi' w w') (hd : hi ≤ lo' ∨ hi' ≤ lo) : SOwn w' lo hi ES EV v0 v1 v2 v3 v4 v5 v6 S := by
  obtain ⟨RA, rc, OA, oc, TA, tc, os, r0, r1, o0, o1, t0, t1, f, r, o, t, a1, a2, a3, a4, a5, a6, d⟩ := h
  exact ⟨RA, rc, OA, oc, TA, tc, os, r0, r1, o0, o1, t0, t1, f, r.aside ha (by omega), ⟨o.1.aside ha (by omega), o.2⟩, t.aside ha (by omega), a1, a2, a3, a4, a5, a6, d⟩
theorem SOwn.wider (h : SOwn w lo hi ES EV v0 v1 v2 v3 v4 v5 v6 S) (hl : lo' ≤ lo) (hh : hi ≤ hi') : SOwn w lo' hi' ES EV v0 v1 v2 v3 v4 v5 v6 S := by
  obtain ⟨RA, rc, OA, oc, TA, tc, os, r0, r1, o0, o1, t0, t1, f, r, o, t, a1, a2, a3, a4, a5, a6, d⟩ := h
  exact ⟨RA, rc, OA, oc, TA, tc, os, r0, r1, o0, o1, t0, t1, f, r, o, t, by omega, by omega, by omega, by omega, by omega, by omega, d⟩
theorem SOwn.setv (h : SOwn w lo hi ES EV v0 v1 v2 v3 v4 v5 v6 S) (hg : g < lo ∨ hi ≤ g) (j : Nat) (u : Value) : SOwn (w.setCell ⟨g, j, none⟩ u) lo hi ES EV v0 v1 v2 v3 v4 v5 v6 S :=
  h.aside ((Aside.refl w (lo := g) (hi := g + 1)).setCell (Nat.le_refl _) (Nat.lt_succ_self _) u) (by omega)
theorem SOwn.form (h : SOwn w lo hi ES EV v0 v1 v2 v3 v4 v5 v6 S) : ∃ RA rc OA oc TA tc, F7 v0 v1 v2 v3 v4 v5 v6 S RA rc OA oc TA tc := by
  obtain ⟨RA, rc, OA, oc, TA, tc, os, r0, r1, o0, o1, t0, t1, f, _⟩ := h
  exact ⟨RA, rc, OA, oc, TA, tc, f⟩
theorem SIn.form (h : SIn w B v0 v1 v2 v3 v4 v5 v6 S) : ∃ RA rc OA oc TA tc, F7 v0 v1 v2 v3 v4 v5 v6 S RA rc OA oc TA tc := by
  obtain ⟨RA, rc, OA, oc, TA, tc, os, f, _⟩ := h
  exact ⟨RA, rc, OA, oc, TA, tc, f⟩
/-- lists of at most 2^20 elements -/
def SShort (S : Scn) : Prop := S.r.length ≤ 1048576 ∧ S.o.length ≤ 2097152 ∧ S.t.length ≤ 1048576 ∧ ∀ l ∈ S.o, l.length ≤ 1048576
theorem SOwn.in_ (h : SOwn w lo hi ES EV v0 v1 v2 v3 v4 v5 v6 S) (f : SFit S) (x : wf4 S) (hs : SShort S) (hh : hi ≤ B) : SIn w B v0 v1 v2 v3 v4 v5 v6 S := by
  obtain ⟨RA, rc, OA, oc, TA, tc, os, r0, r1, o0, o1, t0, t1, f7, r, o, t, a1, a2, a3, a4, a5, a6, d⟩ := h
  refine ⟨RA, rc, OA, oc, TA, tc, os, f7, ⟨rfl, r.rdB (by omega), hs.1, f.2.2.2.1⟩, ⟨o.1.rdS (by omega) hs.2.1 fun s hs' => ?_, o.2⟩, ⟨rfl, t.rdB (by omega), hs.2.2.1, f.2.2.2.2.2⟩, x⟩
  have hm : s.vs ∈ S.o := by rw [← o.2]; exact List.mem_map.2 ⟨s, hs', rfl⟩
  exact ⟨hs.2.2.2 _ hm, (f.2.2.2.2.1 _ hm).2⟩
variable {a b c d e f p : Value} {E : TypeId}
theorem Box.cells7 (h : Box w g E #[a, b, c, d, e, f, p]) : w.cell? ⟨g, 0, none⟩ = some a ∧ w.cell? ⟨g, 1, none⟩ = some b ∧ w.cell? ⟨g, 2, none⟩ = some c ∧ w.cell? ⟨g, 3, none⟩ = some d ∧ w.cell? ⟨g, 4, none⟩ = some e ∧ w.cell? ⟨g, 5, none⟩ = some f ∧ w.cell? ⟨g, 6, none⟩ = some p :=
  ⟨h.cell 0, h.cell 1, h.cell 2, h.cell 3, h.cell 4, h.cell 5, h.cell 6⟩
theorem Box.frz7 (h : Box w g E #[a, b, c, d, e, f, p]) : w.frozen? ⟨g, 0, none⟩ = false ∧ w.frozen? ⟨g, 1, none⟩ = false ∧ w.frozen? ⟨g, 2, none⟩ = false ∧ w.frozen? ⟨g, 3, none⟩ = false ∧ w.frozen? ⟨g, 4, none⟩ = false ∧ w.frozen? ⟨g, 5, none⟩ = false ∧ w.frozen? ⟨g, 6, none⟩ = false :=
  ⟨h.frozen 0, h.frozen 1, h.frozen 2, h.frozen 3, h.frozen 4, h.frozen 5, h.frozen 6⟩
end
def set7 (w : World) (g : Nat) (v0 v1 v2 v3 v4 v5 v6 : Value) : World :=
  ((((((w.setCell ⟨g, 0, none⟩ v0).setCell ⟨g, 1, none⟩ v1).setCell ⟨g, 2, none⟩ v2).setCell ⟨g, 3, none⟩ v3).setCell ⟨g, 4, none⟩ v4).setCell ⟨g, 5, none⟩ v5).setCell ⟨g, 6, none⟩ v6
section
variable {w W : World} {g lo hi : Nat} {E ES EV : TypeId} {x0 x1 x2 x3 x4 x5 x6 v0 v1 v2 v3 v4 v5 v6 : Value} {S : Scn}
theorem set7_box (k : Box W g E #[x0, x1, x2, x3, x4, x5, x6]) : Box (set7 W g v0 v1 v2 v3 v4 v5 v6) g E #[v0, v1, v2, v3, v4, v5, v6] := by
  have k0 : Box (W.setCell ⟨g, 0, none⟩ v0) g E #[v0, x1, x2, x3, x4, x5, x6] := k.set 0 _
  have k1 : Box ((W.setCell ⟨g, 0, none⟩ v0).setCell ⟨g, 1, none⟩ v1) g E #[v0, v1, x2, x3, x4, x5, x6] := k0.set 1 _
  have k2 : Box (((W.setCell ⟨g, 0, none⟩ v0).setCell ⟨g, 1, none⟩ v1).setCell ⟨g, 2, none⟩ v2) g E #[v0, v1, v2, x3, x4, x5, x6] := k1.set 2 _
  have k3 : Box ((((W.setCell ⟨g, 0, none⟩ v0).setCell ⟨g, 1, none⟩ v1).setCell ⟨g, 2, none⟩ v2).setCell ⟨g, 3, none⟩ v3) g E #[v0, v1, v2, v3, x4, x5, x6] := k2.set 3 _
  have k4 : Box (((((W.setCell ⟨g, 0, none⟩ v0).setCell ⟨g, 1, none⟩ v1).setCell ⟨g, 2, none⟩ v2).setCell ⟨g, 3, none⟩ v3).setCell ⟨g, 4, none⟩ v4) g E #[v0, v1, v2, v3, v4, x5, x6] := k3.set 4 _
  have k5 : Box ((((((W.setCell ⟨g, 0, none⟩ v0).setCell ⟨g, 1, none⟩ v1).setCell ⟨g, 2, none⟩ v2).setCell ⟨g, 3, none⟩ v3).setCell ⟨g, 4, none⟩ v4).setCell ⟨g, 5, none⟩ v5) g E #[v0, v1, v2, v3, v4, v5, x6] := k4.set 5 _
  have k6 : Box (((((((W.setCell ⟨g, 0, none⟩ v0).setCell ⟨g, 1, none⟩ v1).setCell ⟨g, 2, none⟩ v2).setCell ⟨g, 3, none⟩ v3).setCell ⟨g, 4, none⟩ v4).setCell ⟨g, 5, none⟩ v5).setCell ⟨g, 6, none⟩ v6) g E #[v0, v1, v2, v3, v4, v5, v6] := k5.set 6 _
  exact k6
theorem set7_size : (set7 W g v0 v1 v2 v3 v4 v5 v6).heap.size = W.heap.size := by unfold set7; simp only [setCell_size]
theorem set7_aside : Aside g (g + 1) W (set7 W g v0 v1 v2 v3 v4 v5 v6) := by
  have h : ∀ {w'} (j : Nat) (u : Value), Aside g (g + 1) W w' → Aside g (g + 1) W (w'.setCell ⟨g, j, none⟩ u) := fun j u h => h.setCell (a := ⟨g, j, none⟩) (Nat.le_refl _) (Nat.lt_succ_self _) u
  exact h 6 _ (h 5 _ (h 4 _ (h 3 _ (h 2 _ (h 1 _ (h 0 _ (Aside.refl _)))))))
/-- a scene of one's own, stored into its variable -/
theorem ret_scn (k : Box W g E #[x0, x1, x2, x3, x4, x5, x6]) (o : SOwn W lo hi ES EV v0 v1 v2 v3 v4 v5 v6 S) (hb : Below w.heap.size w W) (hg : w.heap.size ≤ g) (hl : w.heap.size ≤ lo) (hh : hi ≤ W.heap.size) (hd : g < lo ∨ hi ≤ g) :
    Box (set7 W g v0 v1 v2 v3 v4 v5 v6) g E #[v0, v1, v2, v3, v4, v5, v6] ∧ SOwn (set7 W g v0 v1 v2 v3 v4 v5 v6) w.heap.size (set7 W g v0 v1 v2 v3 v4 v5 v6).heap.size ES EV v0 v1 v2 v3 v4 v5 v6 S ∧ Below w.heap.size w (set7 W g v0 v1 v2 v3 v4 v5 v6) :=
  ⟨set7_box k, (o.aside set7_aside (by omega)).wider hl (by rw [set7_size]; exact hh), hb.trans (set7_aside.below hg hb.size)⟩
end
end Go.Proofs.Ytocllmaikngoaaa

/-
  The laws' helpers for scenes: szScene, toScene, eqScene, markScene, heldScene: contracts.
-/

namespace Go.Proofs.Ytocllmaikngoaaa
open Go.RowKit
set_option linter.unusedVariables false
/-- seven cells that came in: the scene S -/
def SArg (w : World) (v0 v1 v2 v3 v4 v5 v6 : Value) (S : Scn) : Prop :=
  ∃ RA rc OA oc TA tc os, F7 v0 v1 v2 v3 v4 v5 v6 S RA rc OA oc TA tc ∧ IsVecs w RA S.r.length rc S.r ∧ (IsSS w OA S.o.length oc os ∧ cont os = S.o) ∧ IsVecs w TA S.t.length tc S.t ∧ wf4 S
def totS (S : Scn) : Nat := S.r.length + (S.o.length + totN S.o) + S.t.length
theorem SArg.in_ {w : World} {v0 v1 v2 v3 v4 v5 v6 : Value} {S : Scn} (h : SArg w v0 v1 v2 v3 v4 v5 v6 S) (hl : totS S ≤ 1048576) : SIn w w.heap.size v0 v1 v2 v3 v4 v5 v6 S := by
  obtain ⟨RA, rc, OA, oc, TA, tc, os, f, r, o, t, x⟩ := h
  unfold totS at hl
  exact ⟨RA, rc, OA, oc, TA, tc, os, f, r.rdV (by omega), ⟨o.1.rdS (by rw [o.2]; omega), o.2⟩, t.rdV (by omega), x⟩
theorem SArg.form {w : World} {v0 v1 v2 v3 v4 v5 v6 : Value} {S : Scn} (h : SArg w v0 v1 v2 v3 v4 v5 v6 S) : ∃ RA rc OA oc TA tc, F7 v0 v1 v2 v3 v4 v5 v6 S RA rc OA oc TA tc := by
  obtain ⟨RA, rc, OA, oc, TA, tc, os, f, _⟩ := h
  exact ⟨RA, rc, OA, oc, TA, tc, f⟩
/-- a scene's three lists are short -/
theorem short_of {S : Scn} (hl : totS S ≤ 1048576) : SShort S := by
  unfold totS at hl
  exact ⟨by omega, by omega, by omega, fun l h => by have := totN_mem h; omega⟩
def sizS (S : Scn) : Nat := S.r.length * 2 + (totN S.o * 2 + S.t.length * 2)
def markZS (k : Nat) (S : Scn) : Scn := { S with r := markV k S.r.length, o := mkO (k + S.r.length * 2) S.o, t := markV (k + S.r.length * 2 + totN S.o * 2) S.t.length }
theorem mkO_len : ∀ (L : List (List V2)) (k : Nat), (mkO k L).length = L.length
  | [], _ => rfl
  | l :: r, k => by simp [mkO, mkO_len r]
theorem mkO_tot : ∀ (L : List (List V2)) (k : Nat), totN (mkO k L) = totN L
  | [], _ => rfl
  | l :: r, k => by
    have := mkO_tot r (k + l.length * 2)
    simp only [mkO, totN, List.map_cons, List.sum_cons, markV_len] at this ⊢
    omega
set_option maxHeartbeats 1600000 in
theorem szScn_any (w : World) (S : Scn) {v0 v1 v2 v3 v4 v5 v6 : Value} (h : SArg w v0 v1 v2 v3 v4 v5 v6 S) (k : Nat) (hk : k ≤ 1048576) :
    Calls Try.prog 6 #[.agg #[v0, v1, v2, v3, v4, v5, v6], .int .i64 k] w fun e w' => e = .returned (.int .i64 (szR k (totS S))) ∧ Below w.heap.size w w' := by
  obtain ⟨RA, rc, OA, oc, TA, tc, os, ⟨rfl, rfl, rfl, rfl, rfl, rfl, rfl⟩, hR, ⟨hO, hc⟩, hT, _⟩ := h
  have hm1 := Nat.le_trans hR.cap.1 hR.cap.2
  have hm2 := Nat.le_trans hO.2.1 hO.2.2.1
  have hm3 := Nat.le_trans hT.cap.1 hT.cap.2
  obtain ⟨W0, hW0⟩ : ∃ W0, W0 = w.alloc (.cells #[.int .i64 S.lx, .int .i64 S.ly, .int .i64 S.hx, .int .i64 S.hy, .slice RA S.r.length rc, .slice OA S.o.length oc, .slice TA S.t.length tc] 27) := ⟨_, rfl⟩
  have hb0 : Below w.heap.size w W0 := by rw [hW0]; exact below_new _ _
  have k0 : Box W0 w.heap.size 27 #[.int .i64 S.lx, .int .i64 S.ly, .int .i64 S.hx, .int .i64 S.hy, .slice RA S.r.length rc, .slice OA S.o.length oc, .slice TA S.t.length tc] := by rw [hW0]; exact Box.last _ _ _ rfl
  have HS1 := hide (fun k hk => szV_any W0 RA S.r.length rc k hk hm1)
  have HS2 := hide (fun k hk => szSS_any W0 w.heap.size OA S.o.length oc k os hk hO.1 hm2 (hO.2.2.2.1.below hb0) (fun s hs => Nat.le_trans (hO.2.2.2.2 s hs).cap.1 (hO.2.2.2.2 s hs).cap.2))
  have HS3 := hide (fun k hk => szV_any W0 TA S.t.length tc k hk hm3)
  rw [hc] at HS2
  obtain ⟨a0, a1, a2, a3, a4, a5, a6⟩ := k0.cells7
  clear hR hO hT hc hm1 hm2 hm3 k0
  unfold totS
  generalize S.r.length = m1 at *
  generalize S.o.length + totN S.o = m2 at *
  generalize S.o.length = n2 at *
  generalize S.t.length = m3 at *
  generalize S.lx = lx at *
  generalize S.ly = ly at *
  generalize S.hx = hx at *
  generalize S.hy = hy at *
  by_cases h1 : m1 ≤ k
  case neg =>
    have C1 := hide (HS1.out k hk)
    rw [szR_no (by omega)] at C1
    have HE : Hid (szR k (m1 + m2 + m3) = -1) := szR_no (by omega)
    clear HS1 HS2 HS3
    go_enter Try.func6, Try.ntmps6
    go_upto_region 1 with fail
    rw [← hW0]
    clear hW0
    go_wp2_with fail
    refine C1.out.mono ?_
    rintro e w' ⟨rfl, rfl⟩
    go_wp2_with fail
    go_ret
    exact ⟨by rw [HE.out]; rfl, hb0⟩
  obtain ⟨k1, hk1⟩ : ∃ r : Nat, r = k - m1 := ⟨_, rfl⟩
  have C1 := hide (HS1.out k hk)
  rw [szR_ok h1, ← hk1] at C1
  have hn1 : ¬ (k1 : Int) < 0 := by omega
  have hk1' : k1 ≤ 1048576 := by omega
  by_cases h2 : m2 ≤ k1
  case neg =>
    have C2 := hide (HS2.out k1 hk1')
    rw [szR_no (by omega)] at C2
    have HE : Hid (szR k (m1 + m2 + m3) = -1) := szR_no (by omega)
    clear HS1 HS2 HS3 hk1
    go_enter Try.func6, Try.ntmps6
    go_upto_region 1 with fail
    rw [← hW0]
    clear hW0
    go_wp2_with fail
    refine C1.out.mono ?_
    rintro e w' ⟨rfl, rfl⟩
    go_wp2_with fail
    refine C2.out.mono ?_
    rintro e w' ⟨rfl, rfl⟩
    go_wp2_with fail
    go_ret
    exact ⟨by rw [HE.out]; rfl, hb0⟩
  obtain ⟨k2, hk2⟩ : ∃ r : Nat, r = k1 - m2 := ⟨_, rfl⟩
  have C2 := hide (HS2.out k1 hk1')
  rw [szR_ok h2, ← hk2] at C2
  have hn2 : ¬ (k2 : Int) < 0 := by omega
  have hk2' : k2 ≤ 1048576 := by omega
  by_cases h3 : m3 ≤ k2
  case neg =>
    have C3 := hide (HS3.out k2 hk2')
    rw [szR_no (by omega)] at C3
    have HE : Hid (szR k (m1 + m2 + m3) = -1) := szR_no (by omega)
    clear HS1 HS2 HS3 hk1 hk2
    go_enter Try.func6, Try.ntmps6
    go_upto_region 1 with fail
    rw [← hW0]
    clear hW0
    go_wp2_with fail
    refine C1.out.mono ?_
    rintro e w' ⟨rfl, rfl⟩
    go_wp2_with fail
    refine C2.out.mono ?_
    rintro e w' ⟨rfl, rfl⟩
    go_wp2_with fail
    refine C3.out.mono ?_
    rintro e w' ⟨rfl, rfl⟩
    go_wp2_with fail
    go_ret
    exact ⟨by rw [HE.out]; rfl, hb0⟩
  obtain ⟨k3, hk3⟩ : ∃ r : Nat, r = k2 - m3 := ⟨_, rfl⟩
  have C3 := hide (HS3.out k2 hk2')
  rw [szR_ok h3, ← hk3] at C3
  have hn3 : ¬ (k3 : Int) < 0 := by omega
  have HE : Hid (szR k (m1 + m2 + m3) = (k3 : Int)) := by show _ = _; rw [szR_ok (by omega)]; congr 1; omega
  clear HS1 HS2 HS3 hk1 hk2 hk3
  go_enter Try.func6, Try.ntmps6
  go_upto_region 1 with fail
  rw [← hW0]
  clear hW0
  go_wp2_with fail
  refine C1.out.mono ?_
  rintro e w' ⟨rfl, rfl⟩
  go_wp2_with fail
  refine C2.out.mono ?_
  rintro e w' ⟨rfl, rfl⟩
  go_wp2_with fail
  refine C3.out.mono ?_
  rintro e w' ⟨rfl, rfl⟩
  go_wp2_with fail
  go_ret
  exact ⟨by rw [HE.out]; rfl, hb0⟩
set_option maxHeartbeats 3200000 in
theorem toScn_any (w : World) (B : Nat) (hB : B ≤ w.heap.size) {v0 v1 v2 v3 v4 v5 v6 : Value} {S : Scn} (h : SIn w B v0 v1 v2 v3 v4 v5 v6 S) :
    Calls Try.prog 8 #[.agg #[v0, v1, v2, v3, v4, v5, v6]] w fun e w' => SRes 30 29 w w' e S := by
  obtain ⟨RA, rc, OA, oc, TA, tc, os, ⟨rfl, rfl, rfl, rfl, rfl, rfl, rfl⟩, hR, ⟨hO, hc⟩, hT, hwf⟩ := h
  obtain ⟨⟨hlx, hly⟩, hhx, hhy⟩ := hwf
  have HRET : Hid (∀ (W : World) (g ga : Nat) (gb : Nat) (tt : List Sl) (gc : Nat) (r1 o1 : Nat), OwnV W (w.heap.size + 3) r1 29 (.slice (some ⟨ga, 0, none⟩) S.r.length S.r.length) S.r.length S.r → OwnSS W r1 o1 30 29 (.slice (some ⟨gb, 0, none⟩) S.o.length S.o.length) S.o.length tt → cont tt = cont os → OwnV W o1 W.heap.size 29 (.slice (some ⟨gc, 0, none⟩) S.t.length S.t.length) S.t.length S.t → w.heap.size + 3 ≤ r1 → r1 ≤ o1 → o1 ≤ W.heap.size → SOwn W (w.heap.size + 3) W.heap.size 30 29 (.int .i64 S.lx) (.int .i64 S.ly) (.int .i64 S.hx) (.int .i64 S.hy) (.slice (some ⟨ga, 0, none⟩) S.r.length S.r.length) (.slice (some ⟨gb, 0, none⟩) S.o.length S.o.length) (.slice (some ⟨gc, 0, none⟩) S.t.length S.t.length) S) := by
    intro W g ga gb tt gc r1 o1 q1 q2 q3 q4 q5 q6 q7
    exact ⟨_, _, _, _, _, _, tt, _, _, _, _, _, _, ⟨rfl, rfl, rfl, rfl, rfl, rfl, rfl⟩, q1, ⟨q2, q3.trans hc⟩, q4, Nat.le_refl _, by omega, by omega, by omega, by omega, Nat.le_refl _, .inl (Nat.le_refl _), .inl (by omega), .inl (Nat.le_refl _)⟩
  have HC1 := hide (fun (W : World) => toVec_any W S.lx S.ly hlx hly)
  have HC2 := hide (fun (W : World) => toVec_any W S.hx S.hy hhx hhy)
  have HR := hide (fun (W : World) (hb : Below w.heap.size w W) => toVecS_any RA S.r.length rc B S.r W rfl (hR.2.1.below (hb.mono hB)) (Nat.le_trans hB hb.size) (by have := hR.2.2.1; omega) hR.2.2.2)
  have HO := hide (fun (W : World) (hb : Below w.heap.size w W) => toSS_any W B (Nat.le_trans hB hb.size) OA S.o.length oc os (hO.below (hb.mono hB)))
  have HT := hide (fun (W : World) (hb : Below w.heap.size w W) => toVecS_any TA S.t.length tc B S.t W rfl (hT.2.1.below (hb.mono hB)) (Nat.le_trans hB hb.size) (by have := hT.2.2.1; omega) hT.2.2.2)
  clear hR hO hT hlx hly hhx hhy
  generalize hsr : S.r = rr at *
  generalize hst : S.t = st at *
  generalize S.lx = lx at *
  generalize S.ly = ly at *
  generalize S.hx = hx at *
  generalize S.hy = hy at *
  generalize rr.length = rn at *
  generalize st.length = tn at *
  generalize S.o.length = on at *
  obtain ⟨W0, hW0⟩ : ∃ W0, W0 = ((w.alloc (.cells #[.int .i64 lx, .int .i64 ly, .int .i64 hx, .int .i64 hy, .slice RA rn rc, .slice OA on oc, .slice TA tn tc] 27)).alloc (.cells #[.int .i64 0, .int .i64 0, .int .i64 0, .int .i64 0, .slice none 0 0, .slice none 0 0, .slice none 0 0] 33)).alloc (.cells #[.int .i64 0, .int .i64 0, .int .i64 0, .int .i64 0, .slice none 0 0, .slice none 0 0, .slice none 0 0] 33) := ⟨_, rfl⟩
  have hT0 : Below w.heap.size w W0 := by rw [hW0]; exact below_alloc (below_alloc (below_new _ _) _) _
  have kp : Box W0 w.heap.size 27 #[.int .i64 lx, .int .i64 ly, .int .i64 hx, .int .i64 hy, .slice RA rn rc, .slice OA on oc, .slice TA tn tc] := by rw [hW0]; exact ((Box.last _ _ _ rfl).alloc _).alloc _
  have kr : Box W0 (w.heap.size + 1) 33 #[.int .i64 0, .int .i64 0, .int .i64 0, .int .i64 0, .slice none 0 0, .slice none 0 0, .slice none 0 0] := by rw [hW0]; exact (Box.last _ _ _ (alloc_size _ _).symm).alloc _
  have ko : Box W0 (w.heap.size + 2) 33 #[.int .i64 0, .int .i64 0, .int .i64 0, .int .i64 0, .slice none 0 0, .slice none 0 0, .slice none 0 0] := by rw [hW0]; exact Box.last _ _ _ (by rw [alloc_size, alloc_size])
  have hs0 : w.heap.size + 3 ≤ W0.heap.size := by rw [hW0, alloc_size, alloc_size, alloc_size]; omega
  go_enter Try.func8, Try.ntmps8
  go_upto_region 2 with fail
  rw [← hW0]
  clear hW0
  obtain ⟨yp0, yp1, yp2, yp3, yp4, yp5, yp6⟩ := kp.cells7
  obtain ⟨yo0, yo1, yo2, yo3, yo4, yo5, yo6⟩ := ko.cells7
  clear yo0 yo1 yo2 yo3 yo4 yo5 yo6
  go_wp2_with fail
  refine (HC1.out _).mono ?_
  rintro e w1 ⟨rfl, hb1⟩
  clear yp0 yp1 yp2 yp3 yp4 yp5 yp6
  have hz1 := hb1.size
  have hT1 := below_then hT0 hb1
  have kp := kp.below hb1 kp.lt
  have kr := kr.below hb1 kr.lt
  have ko := ko.below hb1 ko.lt
  clear hb1 hT0
  obtain ⟨W1, hW1⟩ : ∃ xw, xw = ((w1.setCell ⟨w.heap.size + 2, 0, none⟩ (.int .i64 lx)).setCell ⟨w.heap.size + 2, 1, none⟩ (.int .i64 ly)) := ⟨_, rfl⟩
  have has : Aside (w.heap.size + 2) (w.heap.size + 2 + 1) w1 W1 := by rw [hW1]; exact ((Aside.refl _).setCell (a := ⟨w.heap.size + 2, 0, none⟩) (Nat.le_refl _) (Nat.lt_succ_self _) _).setCell (a := ⟨w.heap.size + 2, 1, none⟩) (Nat.le_refl _) (Nat.lt_succ_self _) _
  have hsz : W1.heap.size = w1.heap.size := by rw [hW1, setCell_size, setCell_size]
  obtain ⟨zo0, zo1, zo2, zo3, zo4, zo5, zo6⟩ := ko.frz7
  obtain ⟨yo0, yo1, yo2, yo3, yo4, yo5, yo6⟩ := ko.cells7
  have ko' : Box W1 (w.heap.size + 2) 33 #[.int .i64 lx, .int .i64 ly, .int .i64 0, .int .i64 0, .slice none 0 0, .slice none 0 0, .slice none 0 0] := by rw [hW1]; exact ((ko.set 0 _).set 1 _)
  go_upto_region 3 with fail
  rw [← hW1]
  clear hW1 zo0 zo1 zo2 zo3 zo4 zo5 zo6 yo0 yo1 yo2 yo3 yo4 yo5 yo6 ko
  have ko := ko'
  clear ko'
  have hT1 := hT1.trans (has.below (by omega) (by omega))
  have kp := kp.aside has (by omega)
  have kr := kr.aside has (by omega)
  clear has
  have hs1 : w1.heap.size ≤ W1.heap.size := by omega
  have hs1' : W1.heap.size ≤ w1.heap.size := by omega
  clear hsz
  obtain ⟨yp0, yp1, yp2, yp3, yp4, yp5, yp6⟩ := kp.cells7
  obtain ⟨yo0, yo1, yo2, yo3, yo4, yo5, yo6⟩ := ko.cells7
  clear yo0 yo1 yo2 yo3 yo4 yo5 yo6
  go_wp2_with fail
  refine (HC2.out _).mono ?_
  rintro e w2 ⟨rfl, hb2⟩
  clear yp0 yp1 yp2 yp3 yp4 yp5 yp6
  have hz2 := hb2.size
  have hT2 := below_then hT1 hb2
  have kp := kp.below hb2 kp.lt
  have kr := kr.below hb2 kr.lt
  have ko := ko.below hb2 ko.lt
  clear hb2 hT1
  obtain ⟨W2, hW2⟩ : ∃ xw, xw = ((w2.setCell ⟨w.heap.size + 2, 2, none⟩ (.int .i64 hx)).setCell ⟨w.heap.size + 2, 3, none⟩ (.int .i64 hy)) := ⟨_, rfl⟩
  have has : Aside (w.heap.size + 2) (w.heap.size + 2 + 1) w2 W2 := by rw [hW2]; exact ((Aside.refl _).setCell (a := ⟨w.heap.size + 2, 2, none⟩) (Nat.le_refl _) (Nat.lt_succ_self _) _).setCell (a := ⟨w.heap.size + 2, 3, none⟩) (Nat.le_refl _) (Nat.lt_succ_self _) _
  have hsz : W2.heap.size = w2.heap.size := by rw [hW2, setCell_size, setCell_size]
  obtain ⟨zo0, zo1, zo2, zo3, zo4, zo5, zo6⟩ := ko.frz7
  obtain ⟨yo0, yo1, yo2, yo3, yo4, yo5, yo6⟩ := ko.cells7
  have ko' : Box W2 (w.heap.size + 2) 33 #[.int .i64 lx, .int .i64 ly, .int .i64 hx, .int .i64 hy, .slice none 0 0, .slice none 0 0, .slice none 0 0] := by rw [hW2]; exact ((ko.set 2 _).set 3 _)
  go_upto_region 4 with fail
  rw [← hW2]
  clear hW2 zo0 zo1 zo2 zo3 zo4 zo5 zo6 yo0 yo1 yo2 yo3 yo4 yo5 yo6 ko
  have ko := ko'
  clear ko'
  have hT2 := hT2.trans (has.below (by omega) (by omega))
  have kp := kp.aside has (by omega)
  have kr := kr.aside has (by omega)
  clear has
  have hs2 : w2.heap.size ≤ W2.heap.size := by omega
  have hs2' : W2.heap.size ≤ w2.heap.size := by omega
  clear hsz
  obtain ⟨yp0, yp1, yp2, yp3, yp4, yp5, yp6⟩ := kp.cells7
  obtain ⟨yo0, yo1, yo2, yo3, yo4, yo5, yo6⟩ := ko.cells7
  clear yo0 yo1 yo2 yo3 yo4 yo5 yo6
  go_wp2_with fail
  refine (HR.out _ hT2).mono ?_
  rintro e w3 ⟨ga, rfl, qa, hb3⟩
  clear yp0 yp1 yp2 yp3 yp4 yp5 yp6
  have hz3 := hb3.size
  have hT3 := below_then hT2 hb3
  have kp := kp.below hb3 kp.lt
  have kr := kr.below hb3 kr.lt
  have ko := ko.below hb3 ko.lt
  have oa := OwnV.of qa
  have oa := oa.wider (lo' := w.heap.size + 3) (hi' := w3.heap.size) (by omega) (Nat.le_refl _)
  clear qa
  clear hb3 hT2
  obtain ⟨W3, hW3⟩ : ∃ xw, xw = (w3.setCell ⟨w.heap.size + 2, 4, none⟩ (.slice (some ⟨ga, 0, none⟩) rn rn)) := ⟨_, rfl⟩
  have has : Aside (w.heap.size + 2) (w.heap.size + 2 + 1) w3 W3 := by rw [hW3]; exact (Aside.refl _).setCell (a := ⟨w.heap.size + 2, 4, none⟩) (Nat.le_refl _) (Nat.lt_succ_self _) _
  have hsz : W3.heap.size = w3.heap.size := by rw [hW3, setCell_size]
  obtain ⟨zo0, zo1, zo2, zo3, zo4, zo5, zo6⟩ := ko.frz7
  obtain ⟨yo0, yo1, yo2, yo3, yo4, yo5, yo6⟩ := ko.cells7
  have ko' : Box W3 (w.heap.size + 2) 33 #[.int .i64 lx, .int .i64 ly, .int .i64 hx, .int .i64 hy, .slice (some ⟨ga, 0, none⟩) rn rn, .slice none 0 0, .slice none 0 0] := by rw [hW3]; exact (ko.set 4 _)
  go_upto_region 5 with fail
  rw [← hW3]
  clear hW3 zo0 zo1 zo2 zo3 zo4 zo5 zo6 yo0 yo1 yo2 yo3 yo4 yo5 yo6 ko
  have ko := ko'
  clear ko'
  have hT3 := hT3.trans (has.below (by omega) (by omega))
  have kp := kp.aside has (by omega)
  have kr := kr.aside has (by omega)
  have oa := oa.aside has (by omega)
  clear has
  have hs3 : w3.heap.size ≤ W3.heap.size := by omega
  have hs3' : W3.heap.size ≤ w3.heap.size := by omega
  clear hsz
  obtain ⟨yp0, yp1, yp2, yp3, yp4, yp5, yp6⟩ := kp.cells7
  obtain ⟨yo0, yo1, yo2, yo3, yo4, yo5, yo6⟩ := ko.cells7
  clear yo0 yo1 yo2 yo3 yo4 yo5 yo6
  go_wp2_with fail
  refine (HO.out _ hT3).mono ?_
  rintro e w4 ⟨gb, tt, rfl, hct, ob, hb4⟩
  clear yp0 yp1 yp2 yp3 yp4 yp5 yp6
  have hz4 := hb4.size
  have hT4 := below_then hT3 hb4
  have kp := kp.below hb4 kp.lt
  have kr := kr.below hb4 kr.lt
  have ko := ko.below hb4 ko.lt
  have oa := oa.below hb4 (by omega)
  have ob := ob.wider (lo' := w3.heap.size) (hi' := w4.heap.size) (by omega) (Nat.le_refl _)
  clear hb4 hT3
  obtain ⟨W4, hW4⟩ : ∃ xw, xw = (w4.setCell ⟨w.heap.size + 2, 5, none⟩ (.slice (some ⟨gb, 0, none⟩) on on)) := ⟨_, rfl⟩
  have has : Aside (w.heap.size + 2) (w.heap.size + 2 + 1) w4 W4 := by rw [hW4]; exact (Aside.refl _).setCell (a := ⟨w.heap.size + 2, 5, none⟩) (Nat.le_refl _) (Nat.lt_succ_self _) _
  have hsz : W4.heap.size = w4.heap.size := by rw [hW4, setCell_size]
  obtain ⟨zo0, zo1, zo2, zo3, zo4, zo5, zo6⟩ := ko.frz7
  obtain ⟨yo0, yo1, yo2, yo3, yo4, yo5, yo6⟩ := ko.cells7
  have ko' : Box W4 (w.heap.size + 2) 33 #[.int .i64 lx, .int .i64 ly, .int .i64 hx, .int .i64 hy, .slice (some ⟨ga, 0, none⟩) rn rn, .slice (some ⟨gb, 0, none⟩) on on, .slice none 0 0] := by rw [hW4]; exact (ko.set 5 _)
  go_upto_region 6 with fail
  rw [← hW4]
  clear hW4 zo0 zo1 zo2 zo3 zo4 zo5 zo6 yo0 yo1 yo2 yo3 yo4 yo5 yo6 ko
  have ko := ko'
  clear ko'
  have hT4 := hT4.trans (has.below (by omega) (by omega))
  have kp := kp.aside has (by omega)
  have kr := kr.aside has (by omega)
  have oa := oa.aside has (by omega)
  have ob := ob.aside has (by omega)
  clear has
  have hs4 : w4.heap.size ≤ W4.heap.size := by omega
  have hs4' : W4.heap.size ≤ w4.heap.size := by omega
  clear hsz
  obtain ⟨yp0, yp1, yp2, yp3, yp4, yp5, yp6⟩ := kp.cells7
  obtain ⟨yo0, yo1, yo2, yo3, yo4, yo5, yo6⟩ := ko.cells7
  clear yo0 yo1 yo2 yo3 yo4 yo5 yo6
  go_wp2_with fail
  refine (HT.out _ hT4).mono ?_
  rintro e w5 ⟨gc, rfl, qc, hb5⟩
  clear yp0 yp1 yp2 yp3 yp4 yp5 yp6
  have hz5 := hb5.size
  have hT5 := below_then hT4 hb5
  have kp := kp.below hb5 kp.lt
  have kr := kr.below hb5 kr.lt
  have ko := ko.below hb5 ko.lt
  have oa := oa.below hb5 (by omega)
  have ob := ob.below hb5 (by omega)
  have oc' := OwnV.of qc
  have oc' := oc'.wider (lo' := w4.heap.size) (hi' := w5.heap.size) (by omega) (Nat.le_refl _)
  clear qc
  clear hb5 hT4
  obtain ⟨W5, hW5⟩ : ∃ xw, xw = (w5.setCell ⟨w.heap.size + 2, 6, none⟩ (.slice (some ⟨gc, 0, none⟩) tn tn)) := ⟨_, rfl⟩
  have has : Aside (w.heap.size + 2) (w.heap.size + 2 + 1) w5 W5 := by rw [hW5]; exact (Aside.refl _).setCell (a := ⟨w.heap.size + 2, 6, none⟩) (Nat.le_refl _) (Nat.lt_succ_self _) _
  have hsz : W5.heap.size = w5.heap.size := by rw [hW5, setCell_size]
  obtain ⟨zo0, zo1, zo2, zo3, zo4, zo5, zo6⟩ := ko.frz7
  obtain ⟨yo0, yo1, yo2, yo3, yo4, yo5, yo6⟩ := ko.cells7
  have ko' : Box W5 (w.heap.size + 2) 33 #[.int .i64 lx, .int .i64 ly, .int .i64 hx, .int .i64 hy, .slice (some ⟨ga, 0, none⟩) rn rn, .slice (some ⟨gb, 0, none⟩) on on, .slice (some ⟨gc, 0, none⟩) tn tn] := by rw [hW5]; exact (ko.set 6 _)
  go_upto_region 7 with fail
  rw [← hW5]
  clear hW5 zo0 zo1 zo2 zo3 zo4 zo5 zo6 yo0 yo1 yo2 yo3 yo4 yo5 yo6 ko
  have ko := ko'
  clear ko'
  have hT5 := hT5.trans (has.below (by omega) (by omega))
  have kp := kp.aside has (by omega)
  have kr := kr.aside has (by omega)
  have oa := oa.aside has (by omega)
  have ob := ob.aside has (by omega)
  have oc' := oc'.aside has (by omega)
  clear has
  have hs5 : w5.heap.size ≤ W5.heap.size := by omega
  have hs5' : W5.heap.size ≤ w5.heap.size := by omega
  clear hsz
  have HO2 := hide (HRET.out W5 0 ga gb tt gc w3.heap.size w4.heap.size oa ob hct (oc'.wider (Nat.le_refl _) (by omega)) (by omega) (by omega) (by omega))
  have HKR := hide kr
  obtain ⟨yo0, yo1, yo2, yo3, yo4, yo5, yo6⟩ := ko.cells7
  obtain ⟨yr0, yr1, yr2, yr3, yr4, yr5, yr6⟩ := kr.cells7
  obtain ⟨zr0, zr1, zr2, zr3, zr4, zr5, zr6⟩ := kr.frz7
  clear oa ob oc' kp kr ko HC1 HC2 HR HO HT HRET
  go_wp2_with fail
  obtain ⟨r1, r2, r3⟩ := ret_scn HKR.out HO2.out hT5 (by omega) (by omega) (Nat.le_refl _) (.inl (by omega))
  refine bodyPost_ret (results_cell_row rfl _ _ (w.heap.size + 1) _ #[.int .i64 lx, .int .i64 ly, .int .i64 hx, .int .i64 hy, .slice (some ⟨ga, 0, none⟩) rn rn, .slice (some ⟨gb, 0, none⟩) on on, .slice (some ⟨gc, 0, none⟩) tn tn] (0, 0) _ rfl r1 Try.underlying33 rfl Try.sizeScn) rfl ?_
  exact ⟨_, _, _, _, _, _, _, rfl, r2, r3⟩
set_option maxHeartbeats 3200000 in
theorem eqScn_any (w : World) (B : Nat) (hB : B ≤ w.heap.size) {v0 v1 v2 v3 v4 v5 v6 u0 u1 u2 u3 u4 u5 u6 : Value} {S : Scn} (h : SIn w B v0 v1 v2 v3 v4 v5 v6 S) (h' : SIn w B u0 u1 u2 u3 u4 u5 u6 S) :
    Calls Try.prog 10 #[.agg #[v0, v1, v2, v3, v4, v5, v6], .agg #[u0, u1, u2, u3, u4, u5, u6]] w fun e w' => e = .returned (.bool true) ∧ Below w.heap.size w w' := by
  obtain ⟨RA, rc, OA, oc, TA, tc, os, ⟨rfl, rfl, rfl, rfl, rfl, rfl, rfl⟩, hR, ⟨hO, hc⟩, hT, hwf⟩ := h
  obtain ⟨RD, rd, OD, od, TD, td, ot, ⟨rfl, rfl, rfl, rfl, rfl, rfl, rfl⟩, hR', ⟨hO', hc'⟩, hT', _⟩ := h'
  obtain ⟨⟨hlx, hly⟩, hhx, hhy⟩ := hwf
  have HC1 := hide (fun (W : World) => eqVec_any W S.lx S.ly hlx hly)
  have HC2 := hide (fun (W : World) => eqVec_any W S.hx S.hy hhx hhy)
  have HR := hide (fun (W : World) (hb : Below w.heap.size w W) => eqVecS_any RA RD S.r.length rc rd B S.r W rfl (hR.2.1.below (hb.mono hB)) (hR'.2.1.below (hb.mono hB)) (Nat.le_trans hB hb.size) (by have := hR.2.2.1; omega) hR.2.2.2)
  have HO := hide (fun (W : World) (hb : Below w.heap.size w W) => eqSS_any W B (Nat.le_trans hB hb.size) OA S.o.length oc os (hO.below (hb.mono hB)) OD od ot (hO'.below (hb.mono hB)) (hc'.trans hc.symm))
  have HT := hide (fun (W : World) (hb : Below w.heap.size w W) => eqVecS_any TA TD S.t.length tc td B S.t W rfl (hT.2.1.below (hb.mono hB)) (hT'.2.1.below (hb.mono hB)) (Nat.le_trans hB hb.size) (by have := hT.2.2.1; omega) hT.2.2.2)
  clear hR hO hT hR' hO' hT' hlx hly hhx hhy hc hc'
  generalize S.r.length = rn at *
  generalize S.o.length = on at *
  generalize S.t.length = tn at *
  generalize S.lx = lx at *
  generalize S.ly = ly at *
  generalize S.hx = hx at *
  generalize S.hy = hy at *
  obtain ⟨W0, hW0⟩ : ∃ W0, W0 = (w.alloc (.cells #[.int .i64 lx, .int .i64 ly, .int .i64 hx, .int .i64 hy, .slice RA rn rc, .slice OA on oc, .slice TA tn tc] 33)).alloc (.cells #[.int .i64 lx, .int .i64 ly, .int .i64 hx, .int .i64 hy, .slice RD rn rd, .slice OD on od, .slice TD tn td] 33) := ⟨_, rfl⟩
  have hT0 : Below w.heap.size w W0 := by rw [hW0]; exact below_alloc (below_new _ _) _
  have kp : Box W0 w.heap.size 33 #[.int .i64 lx, .int .i64 ly, .int .i64 hx, .int .i64 hy, .slice RA rn rc, .slice OA on oc, .slice TA tn tc] := by rw [hW0]; exact (Box.last _ _ _ rfl).alloc _
  have kq : Box W0 (w.heap.size + 1) 33 #[.int .i64 lx, .int .i64 ly, .int .i64 hx, .int .i64 hy, .slice RD rn rd, .slice OD on od, .slice TD tn td] := by rw [hW0]; exact Box.last _ _ _ (alloc_size _ _).symm
  go_enter Try.func10, Try.ntmps10
  go_upto_region 1 with fail
  rw [← hW0]
  clear hW0
  obtain ⟨yp0, yp1, yp2, yp3, yp4, yp5, yp6⟩ := kp.cells7
  obtain ⟨yq0, yq1, yq2, yq3, yq4, yq5, yq6⟩ := kq.cells7
  go_wp2_with fail
  refine (HC1.out _).mono ?_
  rintro e w1 ⟨rfl, hb1⟩
  clear yp0 yp1 yp2 yp3 yp4 yp5 yp6 yq0 yq1 yq2 yq3 yq4 yq5 yq6
  have kp := kp.below hb1 kp.lt
  have kq := kq.below hb1 kq.lt
  have hT1 := below_then hT0 hb1
  clear hb1 hT0
  obtain ⟨yp0, yp1, yp2, yp3, yp4, yp5, yp6⟩ := kp.cells7
  obtain ⟨yq0, yq1, yq2, yq3, yq4, yq5, yq6⟩ := kq.cells7
  go_wp2_with fail
  refine (HC2.out _).mono ?_
  rintro e w2 ⟨rfl, hb2⟩
  clear yp0 yp1 yp2 yp3 yp4 yp5 yp6 yq0 yq1 yq2 yq3 yq4 yq5 yq6
  have kp := kp.below hb2 kp.lt
  have kq := kq.below hb2 kq.lt
  have hT2 := below_then hT1 hb2
  clear hb2 hT1
  obtain ⟨yp0, yp1, yp2, yp3, yp4, yp5, yp6⟩ := kp.cells7
  obtain ⟨yq0, yq1, yq2, yq3, yq4, yq5, yq6⟩ := kq.cells7
  go_wp2_with fail
  refine (HR.out _ hT2).mono ?_
  rintro e w3 ⟨rfl, hb3⟩
  clear yp0 yp1 yp2 yp3 yp4 yp5 yp6 yq0 yq1 yq2 yq3 yq4 yq5 yq6
  have kp := kp.below hb3 kp.lt
  have kq := kq.below hb3 kq.lt
  have hT3 := below_then hT2 hb3
  clear hb3 hT2
  obtain ⟨yp0, yp1, yp2, yp3, yp4, yp5, yp6⟩ := kp.cells7
  obtain ⟨yq0, yq1, yq2, yq3, yq4, yq5, yq6⟩ := kq.cells7
  go_wp2_with fail
  refine (HO.out _ hT3).mono ?_
  rintro e w4 ⟨rfl, hb4⟩
  clear yp0 yp1 yp2 yp3 yp4 yp5 yp6 yq0 yq1 yq2 yq3 yq4 yq5 yq6
  have kp := kp.below hb4 kp.lt
  have kq := kq.below hb4 kq.lt
  have hT4 := below_then hT3 hb4
  clear hb4 hT3
  obtain ⟨yp0, yp1, yp2, yp3, yp4, yp5, yp6⟩ := kp.cells7
  obtain ⟨yq0, yq1, yq2, yq3, yq4, yq5, yq6⟩ := kq.cells7
  go_wp2_with fail
  refine (HT.out _ hT4).mono ?_
  rintro e w5 ⟨rfl, hb5⟩
  clear yp0 yp1 yp2 yp3 yp4 yp5 yp6 yq0 yq1 yq2 yq3 yq4 yq5 yq6
  have kp := kp.below hb5 kp.lt
  have kq := kq.below hb5 kq.lt
  have hT5 := below_then hT4 hb5
  clear hb5 hT4
  go_wp2_with fail
  go_ret
  exact ⟨rfl, hT5⟩
theorem aside_box (w : World) (lo hi : Nat) (o : Obj) : Aside lo hi w (w.alloc o) :=
  ⟨rfl, rfl, rfl, by rw [alloc_size]; omega, fun k hk _ => (below_new w o).block k hk⟩
theorem markZS_form (k : Nat) (S : Scn) {w : World} {lo hi : Nat} {ES EV : TypeId} {RA OA TA : Option Addr} {rc oc tc r0 r1 o0 o1 t0 t1 : Nat} {os : List Sl}
    (hc : cont os = S.o) (q1 : OwnV w r0 r1 EV (.slice RA S.r.length rc) S.r.length (markV k S.r.length)) (q2 : OwnSS w o0 o1 ES EV (.slice OA S.o.length oc) S.o.length (mkS (k + S.r.length * 2) os)) (q3 : OwnV w t0 t1 EV (.slice TA S.t.length tc) S.t.length (markV (k + S.r.length * 2 + totN S.o * 2) S.t.length))
    (d : lo ≤ r0 ∧ lo ≤ o0 ∧ lo ≤ t0 ∧ r1 ≤ hi ∧ o1 ≤ hi ∧ t1 ≤ hi ∧ (r1 ≤ o0 ∨ o1 ≤ r0) ∧ (r1 ≤ t0 ∨ t1 ≤ r0) ∧ (o1 ≤ t0 ∨ t1 ≤ o0)) :
    SOwn w lo hi ES EV (.int .i64 S.lx) (.int .i64 S.ly) (.int .i64 S.hx) (.int .i64 S.hy) (.slice RA S.r.length rc) (.slice OA S.o.length oc) (.slice TA S.t.length tc) (markZS k S) := by
  refine ⟨RA, rc, OA, oc, TA, tc, mkS (k + S.r.length * 2) os, r0, r1, o0, o1, t0, t1, ⟨rfl, rfl, rfl, rfl, ?_, ?_, ?_⟩, ?_, ⟨?_, ?_⟩, ?_, d⟩
  · show _ = Value.slice RA (markV k S.r.length).length rc
    rw [markV_len]
  · show _ = Value.slice OA (mkO _ S.o).length oc
    rw [mkO_len]
  · show _ = Value.slice TA (markV _ S.t.length).length tc
    rw [markV_len]
  · show OwnV _ _ _ _ (.slice RA (markV k S.r.length).length rc) (markV k S.r.length).length (markV k S.r.length)
    rw [markV_len]; exact q1
  · show OwnSS _ _ _ _ _ (.slice OA (mkO _ S.o).length oc) (mkO _ S.o).length _
    rw [mkO_len]; exact q2
  · rw [mkS_cont, hc]; rfl
  · show OwnV _ _ _ _ (.slice TA (markV _ S.t.length).length tc) (markV _ S.t.length).length (markV _ S.t.length)
    rw [markV_len]; exact q3
set_option maxHeartbeats 3200000 in
theorem markScn_own (w : World) (lo hi k : Nat) {ES EV : TypeId} {v0 v1 v2 v3 v4 v5 v6 : Value} {S : Scn} (h : SOwn w lo hi ES EV v0 v1 v2 v3 v4 v5 v6 S) (hhi : hi ≤ w.heap.size) (hl : totS S ≤ 3000000) (hk : k ≤ 90000000) :
    Calls Try.prog 11 #[.agg #[v0, v1, v2, v3, v4, v5, v6], .int .i64 k] w fun e w' => e = .returned (.int .i64 ((k + sizS S : Nat) : Int)) ∧ SOwn w' lo hi ES EV v0 v1 v2 v3 v4 v5 v6 (markZS k S) ∧ Aside lo hi w w' := by
  obtain ⟨RA, rc, OA, oc, TA, tc, os, r0, r1, o0, o1, t0, t1, ⟨rfl, rfl, rfl, rfl, rfl, rfl, rfl⟩, hR, ⟨hO, hc⟩, hT, hd⟩ := h
  have HF := hide (fun (W : World) q1 q2 q3 => markZS_form k S (w := W) (lo := lo) (hi := hi) (ES := ES) (EV := EV) (RA := RA) (OA := OA) (TA := TA) (rc := rc) (oc := oc) (tc := tc) (r0 := r0) (r1 := r1) (o0 := o0) (o1 := o1) (t0 := t0) (t1 := t1) hc q1 q2 q3 hd)
  obtain ⟨d1, d2, d3, d4, d5, d6, d7, d8, d9⟩ := hd
  unfold totS at hl
  have e2 : totN (cont os) = totN S.o := by rw [hc]
  obtain ⟨W0, hW0⟩ : ∃ W0, W0 = w.alloc (.cells #[.int .i64 S.lx, .int .i64 S.ly, .int .i64 S.hx, .int .i64 S.hy, .slice RA S.r.length rc, .slice OA S.o.length oc, .slice TA S.t.length tc] 33) := ⟨_, rfl⟩
  have ha0 : Aside lo hi w W0 := by rw [hW0]; exact aside_box _ _ _ _
  have hb0 : Below w.heap.size w W0 := by rw [hW0]; exact below_new _ _
  have k0 : Box W0 w.heap.size 33 #[.int .i64 S.lx, .int .i64 S.ly, .int .i64 S.hx, .int .i64 S.hy, .slice RA S.r.length rc, .slice OA S.o.length oc, .slice TA S.t.length tc] := by rw [hW0]; exact Box.last _ _ _ rfl
  have hs0 := hb0.size
  have qR := hR.below hb0 (by omega)
  have qO := hO.below hb0 (by omega)
  have qT := hT.below hb0 (by omega)
  clear hR hO hT
  have HM1 := hide (markVecS_own (.slice RA S.r.length rc) S.r.length k EV r0 r1 _ W0 qR (by omega) (by omega))
  have HM2 := hide (fun (W : World) (hw : hi ≤ W.heap.size) q => markSS_own W (.slice OA S.o.length oc) S.o.length (k + S.r.length * 2) o0 o1 ES EV os q (by rw [e2]; omega) (by omega) (by omega))
  have HM3 := hide (fun (W : World) q => markVecS_own (.slice TA S.t.length tc) S.t.length (k + S.r.length * 2 + totN S.o * 2) EV t0 t1 S.t W q (by omega) (by omega))
  rw [e2] at HM2
  have e3 : Hid (k + S.r.length * 2 + totN S.o * 2 + S.t.length * 2 = k + sizS S) := by show _ = _; unfold sizS; omega
  clear e2 hc
  generalize hK3 : k + sizS S = K3 at *
  generalize k + S.r.length * 2 + totN S.o * 2 = K2 at *
  generalize k + S.r.length * 2 = K1 at *
  go_enter Try.func11, Try.ntmps11
  go_upto_region 1 with fail
  rw [← hW0]
  clear hW0
  obtain ⟨y0, y1, y2, y3, y4, y5, y6⟩ := k0.cells7
  go_wp2_with fail
  refine HM1.out.mono ?_
  rintro e w1 ⟨rfl, pR, ha1⟩
  clear y0 y1 y2 y3 y4 y5 y6
  have hs1 := ha1.size
  have k0 := k0.aside ha1 (by omega)
  have qO := qO.aside ha1 (by omega)
  have qT := qT.aside ha1 (by omega)
  have ha0 := ha0.trans (ha1.wide d1 d4)
  obtain ⟨y0, y1, y2, y3, y4, y5, y6⟩ := k0.cells7
  go_wp2_with fail
  refine (HM2.out _ (by omega) qO).mono ?_
  rintro e w2 ⟨rfl, pO, ha2⟩
  clear y0 y1 y2 y3 y4 y5 y6 qO
  have hs2 := ha2.size
  have k0 := k0.aside ha2 (by omega)
  have qT := qT.aside ha2 (by omega)
  have pR := pR.aside ha2 (by omega)
  have ha0 := ha0.trans (ha2.wide d2 d5)
  obtain ⟨y0, y1, y2, y3, y4, y5, y6⟩ := k0.cells7
  go_wp2_with fail
  refine (HM3.out _ qT).mono ?_
  rintro e w3 ⟨rfl, pT, ha3⟩
  clear y0 y1 y2 y3 y4 y5 y6 qT
  have pR := pR.aside ha3 (by omega)
  have pO := pO.aside ha3 (by omega)
  have ha0 := ha0.trans (ha3.wide d3 d6)
  rw [e3.out]
  have HE := hide (HF.out _ pR pO pT)
  clear k0 pR pO pT HF HM1 HM2 HM3 ha1 ha2 ha3
  go_wp2_with fail
  go_ret
  exact ⟨rfl, HE.out, ha0⟩
set_option maxHeartbeats 3200000 in
theorem heldScn_any (w : World) (lo hi k : Nat) {ES EV : TypeId} {v0 v1 v2 v3 v4 v5 v6 : Value} {S : Scn} (h : SOwn w lo hi ES EV v0 v1 v2 v3 v4 v5 v6 (markZS k S)) (hhi : hi ≤ w.heap.size) (hl : totS S ≤ 3000000) (hk : k ≤ 90000000) :
    Calls Try.prog 12 #[.agg #[v0, v1, v2, v3, v4, v5, v6], .int .i64 k] w fun e w' => e = .returned (.int .i64 ((k + sizS S : Nat) : Int)) ∧ Below w.heap.size w w' := by
  obtain ⟨RA, rc, OA, oc, TA, tc, os, r0, r1, o0, o1, t0, t1, ⟨rfl, rfl, rfl, rfl, rfl, rfl, rfl⟩, hR, ⟨hO, hc⟩, hT, hd⟩ := h
  obtain ⟨d1, d2, d3, d4, d5, d6, d7, d8, d9⟩ := hd
  have er : (markZS k S).r = markV k S.r.length := rfl
  have eo : (markZS k S).o = mkO (k + S.r.length * 2) S.o := rfl
  have et : (markZS k S).t = markV (k + S.r.length * 2 + totN S.o * 2) S.t.length := rfl
  rw [er, markV_len] at hR
  rw [eo, mkO_len] at hO
  rw [et, markV_len] at hT
  rw [er, eo, et, markV_len, mkO_len, markV_len]
  rw [eo] at hc
  clear er eo et
  unfold totS at hl
  have hol : os.length = S.o.length := by rw [← cont_len, hc, mkO_len]
  have hct : totN (cont os) = totN S.o := by rw [hc, mkO_tot]
  have hvs : ∀ j (h : j < os.length), os[j].vs = markV (k + S.r.length * 2 + totN ((cont os).take j) * 2) os[j].vs.length := by
    intro j hj
    have e1 : ∀ (L : List (List V2)) (q j : Nat) (h : j < L.length), (mkO q L)[j]'(by rw [mkO_len]; exact h) = markV (q + totN ((mkO q L).take j) * 2) L[j].length := by
      intro L
      induction L with
      | nil => intro q j h; simp at h
      | cons l L ih =>
        intro q j h
        match j, h with
        | 0, _ => simp [mkO, totN]
        | j + 1, h =>
          have := ih (q + l.length * 2) j (by simpa using h)
          simp only [mkO, List.getElem_cons_succ, List.take_succ_cons]
          rw [this]
          have e : totN (markV q l.length :: (mkO (q + l.length * 2) L).take j) = l.length + totN ((mkO (q + l.length * 2) L).take j) := by simp [totN, markV_len]
          rw [e]
          congr 1
          omega
    have hjS : j < S.o.length := by omega
    have h1 : os[j].vs = (mkO (k + S.r.length * 2) S.o)[j]'(by rw [mkO_len]; exact hjS) := by
      rw [← cont_at hj]; simp only [hc]
    have h2 := e1 S.o (k + S.r.length * 2) j hjS
    have h3 : os[j].vs.length = S.o[j].length := by rw [h1, h2, markV_len]
    rw [h1, h2, hc]
    congr 1
    rw [markV_len]
  obtain ⟨W0, hW0⟩ : ∃ W0, W0 = w.alloc (.cells #[.int .i64 (markZS k S).lx, .int .i64 (markZS k S).ly, .int .i64 (markZS k S).hx, .int .i64 (markZS k S).hy, .slice RA S.r.length rc, .slice OA S.o.length oc, .slice TA S.t.length tc] 33) := ⟨_, rfl⟩
  have hb0 : Below w.heap.size w W0 := by rw [hW0]; exact below_new _ _
  have k0 : Box W0 w.heap.size 33 #[.int .i64 (markZS k S).lx, .int .i64 (markZS k S).ly, .int .i64 (markZS k S).hx, .int .i64 (markZS k S).hy, .slice RA S.r.length rc, .slice OA S.o.length oc, .slice TA S.t.length tc] := by rw [hW0]; exact Box.last _ _ _ rfl
  have hs0 := hb0.size
  have qR := hR.below hb0 (by omega)
  have qO := hO.below hb0 (by omega)
  have qT := hT.below hb0 (by omega)
  clear hR hO hT
  have HM1 := hide (heldVecS_any RA S.r.length rc k W0.heap.size W0 (qR.rdB (by omega)) (by omega) (by omega))
  have HM2 := hide (heldSS_any W0 W0.heap.size OA S.o.length oc (k + S.r.length * 2) os hol (qO.1.rdB (by omega)) (fun j hj => by
    have := (qO.2.1 os[j] (List.getElem_mem hj)).rdB (A := os[j].a) (n := os[j].vs.length) (c := os[j].c) (B := W0.heap.size) (by omega)
    rwa [hvs j hj] at this) (by rw [hct]; omega) (by omega))
  have HM3 := hide (heldVecS_any TA S.t.length tc (k + S.r.length * 2 + totN S.o * 2) W0.heap.size W0 (qT.rdB (by omega)) (by omega) (by omega))
  rw [hct] at HM2
  have e3 : Hid (k + S.r.length * 2 + totN S.o * 2 + S.t.length * 2 = k + sizS S) := by show _ = _; unfold sizS; omega
  clear hct hc hvs hol qR qO qT
  have hn1 : ¬ ((k + S.r.length * 2 : Nat) : Int) < 0 := by omega
  have hn2 : ¬ ((k + S.r.length * 2 + totN S.o * 2 : Nat) : Int) < 0 := by omega
  have hn3 : ¬ ((k + S.r.length * 2 + totN S.o * 2 + S.t.length * 2 : Nat) : Int) < 0 := by omega
  rw [e3.out] at hn3 HM3
  generalize hK3 : k + sizS S = K3 at *
  generalize k + S.r.length * 2 + totN S.o * 2 = K2 at *
  generalize k + S.r.length * 2 = K1 at *
  obtain ⟨y0, y1, y2, y3, y4, y5, y6⟩ := k0.cells7
  go_enter Try.func12, Try.ntmps12
  go_upto_region 1 with fail
  rw [← hW0]
  clear hW0
  go_wp2_with fail
  refine HM1.out.mono ?_
  rintro e w' ⟨rfl, rfl⟩
  go_wp2_with fail
  refine HM2.out.mono ?_
  rintro e w' ⟨rfl, rfl⟩
  go_wp2_with fail
  refine HM3.out.mono ?_
  rintro e w' ⟨rfl, rfl⟩
  go_wp2_with fail
  go_ret
  exact ⟨rfl, hb0⟩
end Go.Proofs.Ytocllmaikngoaaa

/-
  The exact laws' walks over scenes: small facts.
-/

namespace Go.Proofs.Ytocllmaikngoaaa
open Go.RowKit
set_option linter.unusedVariables false
theorem SArg.below {w w' : World} {v0 v1 v2 v3 v4 v5 v6 : Value} {S : Scn} (h : SArg w v0 v1 v2 v3 v4 v5 v6 S) (hb : Below w.heap.size w w') : SArg w' v0 v1 v2 v3 v4 v5 v6 S := by
  obtain ⟨RA, rc, OA, oc, TA, tc, os, f, r, o, t, x⟩ := h
  have hv : ∀ {a : Option Addr} {l c : Nat} {zs : List V2}, IsVecs w a l c zs → IsVecs w' a l c zs := by
    intro a l c zs h
    rcases h with h | ⟨x, rfl, h1, h2, h3, h4, h5⟩
    · exact .inl h
    · refine .inr ⟨x, rfl, h1, h2, h3, fun i hi => ?_, h5⟩
      obtain ⟨e1, e2⟩ := h4 i hi
      have l1 := World.block_lt_of_cell? w _ e1
      have l2 := World.block_lt_of_cell? w _ e2
      exact ⟨(hb.cell l1).trans e1, (hb.cell l2).trans e2⟩
  exact ⟨RA, rc, OA, oc, TA, tc, os, f, hv r, ⟨⟨o.1.1, o.1.2.1, o.1.2.2.1, (o.1.2.2.2.1.below hb).wider hb.size, fun s hs => hv (o.1.2.2.2.2 s hs)⟩, o.2⟩, hv t, x⟩
theorem sizS_le (S : Scn) : sizS S ≤ totS S * 2 := by unfold sizS totS; omega
end Go.Proofs.Ytocllmaikngoaaa
