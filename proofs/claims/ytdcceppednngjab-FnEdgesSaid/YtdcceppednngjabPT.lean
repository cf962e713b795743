/-
  The texts PtM, PtQ, put together; each has its own heading below. No condition of ours.
-/
import Derived.Test.YtdcceppednngjabPB
import Derived.Test.YtdcceppednngjabRX
import Derived.Test.YtdcceppednngjabRL
import Derived.Test.YtdcceppednngjabNatLen
import Derived.Sort.AtCall
import Derived.Deep.RegionHeld3
import Derived.Deep.CutRange
/-
  Fractions and points as cells: what a function is handed, what is in memory of a call's own; the operations on fractions, each over whole fractions.
-/


namespace Go.Proofs.Ytdcceppednngjab
open Go.RowKit
set_option linter.unusedVariables false

abbrev RQ := (Bool × List Int) × List Int
abbrev PQ := RQ × RQ
def wfL (l : List Int) : Prop := ∀ d ∈ l, (Lit.int .i64 d).wf = true
theorem wfL_of {l : List Int} (h : Limbs l) : wfL l := fun d hd => by have := h d hd; have h1 : IntKind.i64.min = -9223372036854775808 := rfl; have h2 : IntKind.i64.max = 9223372036854775807 := rfl; simp only [Lit.wf, Bool.and_eq_true, decide_eq_true_eq]; omega
/-- the lists of a fraction are short enough to be handed on, and hold ints -/
def QFit (Z : RQ) : Prop := Z.1.2.length ≤ 1048576 ∧ Z.2.length ≤ 1048576 ∧ wfL Z.1.2 ∧ wfL Z.2
/-- three cells that are the fraction Z, its lists readable below block B -/
def QIn (w : World) (B : Nat) (v0 v1 v2 : Value) (Z : RQ) : Prop :=
  ∃ A n c D m k, v0 = .bool Z.1.1 ∧ v1 = .slice A n c ∧ v2 = .slice D m k ∧ RdI w B A n Z.1.2 ∧ RdI w B D m Z.2 ∧ (n ≤ c ∧ c ≤ maxLen) ∧ (m ≤ k ∧ k ≤ maxLen)
/-- three cells that are the fraction Z, its lists in memory of one's own, apart, from block lo up to hi -/
def QOwn (w : World) (lo hi : Nat) (E : TypeId) (v0 v1 v2 : Value) (Z : RQ) : Prop :=
  v0 = .bool Z.1.1 ∧ ∃ l1 h1 l2 h2, Own w l1 h1 E v1 Z.1.2.length (iv Z.1.2) ∧ Own w l2 h2 E v2 Z.2.length (iv Z.2) ∧ lo ≤ l1 ∧ lo ≤ l2 ∧ h1 ≤ hi ∧ h2 ≤ hi ∧ (h1 ≤ l2 ∨ h2 ≤ l1)
def QRes (TI : TypeId) (w w' : World) (e : Ending) (Z : RQ) : Prop :=
  ∃ v0 v1 v2, e = .returned (.agg #[v0, v1, v2]) ∧ QOwn w' w.heap.size w'.heap.size TI v0 v1 v2 Z ∧ Below w.heap.size w w'
section
variable {w w' : World} {B B' lo hi lo' hi' g : Nat} {E : TypeId} {v0 v1 v2 : Value} {Z : RQ}
theorem QIn.fit (h : QIn w B v0 v1 v2 Z) : QFit Z := by
  obtain ⟨A, n, c, D, m, k, _, _, _, r1, r2, _, _⟩ := h
  exact ⟨by have := r1.1; have := r1.2.2.1; omega, by have := r2.1; have := r2.2.2.1; omega, r1.2.2.2, r2.2.2.2⟩
theorem QIn.below (h : QIn w B v0 v1 v2 Z) (hb : Below B w w') : QIn w' B v0 v1 v2 Z := by
  obtain ⟨A, n, c, D, m, k, e0, e1, e2, r1, r2, r⟩ := h
  exact ⟨A, n, c, D, m, k, e0, e1, e2, r1.below hb, r2.below hb, r⟩
theorem QIn.wider (h : QIn w B v0 v1 v2 Z) (hB : B ≤ B') : QIn w B' v0 v1 v2 Z := by
  obtain ⟨A, n, c, D, m, k, e0, e1, e2, r1, r2, r⟩ := h
  exact ⟨A, n, c, D, m, k, e0, e1, e2, ⟨r1.1, r1.2.1.wider hB, r1.2.2⟩, ⟨r2.1, r2.2.1.wider hB, r2.2.2⟩, r⟩
theorem QIn.up (h : QIn w w.heap.size v0 v1 v2 Z) (hb : Below w.heap.size w w') : QIn w' w'.heap.size v0 v1 v2 Z := (h.below hb).wider hb.size
theorem QOwn.below (h : QOwn w lo hi E v0 v1 v2 Z) (hb : Below B w w') (hh : hi ≤ B) : QOwn w' lo hi E v0 v1 v2 Z := by
  obtain ⟨e0, l1, h1, l2, h2, o1, o2, a, b, c, d, e⟩ := h
  exact ⟨e0, l1, h1, l2, h2, o1.below hb (by omega), o2.below hb (by omega), a, b, c, d, e⟩
theorem QOwn.aside (h : QOwn w lo hi E v0 v1 v2 Z) (ha : Aside lo' hi' w w') (hd : hi ≤ lo' ∨ hi' ≤ lo) : QOwn w' lo hi E v0 v1 v2 Z := by
  obtain ⟨e0, l1, h1, l2, h2, o1, o2, a, b, c, d, e⟩ := h
  exact ⟨e0, l1, h1, l2, h2, o1.aside ha (by omega), o2.aside ha (by omega), a, b, c, d, e⟩
theorem QOwn.wider (h : QOwn w lo hi E v0 v1 v2 Z) (hl : lo' ≤ lo) (hh : hi ≤ hi') : QOwn w lo' hi' E v0 v1 v2 Z := by
  obtain ⟨e0, l1, h1, l2, h2, o1, o2, a, b, c, d, e⟩ := h
  exact ⟨e0, l1, h1, l2, h2, o1, o2, by omega, by omega, by omega, by omega, e⟩
theorem QOwn.setv (h : QOwn w lo hi E v0 v1 v2 Z) (hg : g < lo ∨ hi ≤ g) (j : Nat) (u : Value) : QOwn (w.setCell ⟨g, j, none⟩ u) lo hi E v0 v1 v2 Z :=
  h.aside ((Aside.refl w (lo := g) (hi := g + 1)).setCell (Nat.le_refl _) (Nat.lt_succ_self _) u) (by omega)
theorem QOwn.in_ (h : QOwn w lo hi E v0 v1 v2 Z) (f : QFit Z) (hh : hi ≤ B) : QIn w B v0 v1 v2 Z := by
  obtain ⟨e0, l1, h1, l2, h2, o1, o2, a, b, c, d, e⟩ := h
  obtain ⟨A, x, rfl⟩ := o1.form
  obtain ⟨D, y, rfl⟩ := o2.form
  exact ⟨A, _, x, D, _, y, e0, rfl, rfl, ⟨rfl, o1.rdB (by omega), f.1, f.2.2.1⟩, ⟨rfl, o2.rdB (by omega), f.2.1, f.2.2.2⟩, o1.cap, o2.cap⟩
theorem QOwn.form (h : QOwn w lo hi E v0 v1 v2 Z) : ∃ A c D k, v0 = .bool Z.1.1 ∧ v1 = .slice A Z.1.2.length c ∧ v2 = .slice D Z.2.length k := by
  obtain ⟨e0, l1, h1, l2, h2, o1, o2, _⟩ := h
  obtain ⟨A, x, rfl⟩ := o1.form
  obtain ⟨D, y, rfl⟩ := o2.form
  exact ⟨A, x, D, y, e0, rfl, rfl⟩
theorem QRes.of {TI : TypeId} {e : Ending} (h : RatRes TI w w' e Z) : QRes TI w w' e Z := by
  obtain ⟨v, d, rfl, hp, hb⟩ := h
  exact ⟨_, v, d, rfl, ⟨rfl, hp⟩, hb⟩
theorem QOwn.zero (w : World) (lo hi : Nat) (E : TypeId) (hh : lo ≤ hi) : QOwn w lo hi E (.bool false) (.slice none 0 0) (.slice none 0 0) noR :=
  ⟨rfl, lo, lo, lo, lo, Own.nil _ _ _ _, Own.nil _ _ _ _, Nat.le_refl _, Nat.le_refl _, hh, hh, .inl (Nat.le_refl _)⟩
end
/-- six cells that are a point -/
def PIn (w : World) (B : Nat) (v0 v1 v2 v3 v4 v5 : Value) (P : PQ) : Prop := QIn w B v0 v1 v2 P.1 ∧ QIn w B v3 v4 v5 P.2
def POwn (w : World) (lo hi : Nat) (E : TypeId) (v0 v1 v2 v3 v4 v5 : Value) (P : PQ) : Prop :=
  ∃ l1 h1 l2 h2, QOwn w l1 h1 E v0 v1 v2 P.1 ∧ QOwn w l2 h2 E v3 v4 v5 P.2 ∧ lo ≤ l1 ∧ lo ≤ l2 ∧ h1 ≤ hi ∧ h2 ≤ hi ∧ (h1 ≤ l2 ∨ h2 ≤ l1)
def PFit (P : PQ) : Prop := QFit P.1 ∧ QFit P.2
section
variable {w w' : World} {B B' lo hi lo' hi' g : Nat} {E : TypeId} {v0 v1 v2 v3 v4 v5 : Value} {P : PQ}
theorem PIn.fit (h : PIn w B v0 v1 v2 v3 v4 v5 P) : PFit P := ⟨h.1.fit, h.2.fit⟩
theorem PIn.below (h : PIn w B v0 v1 v2 v3 v4 v5 P) (hb : Below B w w') : PIn w' B v0 v1 v2 v3 v4 v5 P := ⟨h.1.below hb, h.2.below hb⟩
theorem PIn.wider (h : PIn w B v0 v1 v2 v3 v4 v5 P) (hB : B ≤ B') : PIn w B' v0 v1 v2 v3 v4 v5 P := ⟨h.1.wider hB, h.2.wider hB⟩
theorem PIn.up (h : PIn w w.heap.size v0 v1 v2 v3 v4 v5 P) (hb : Below w.heap.size w w') : PIn w' w'.heap.size v0 v1 v2 v3 v4 v5 P := (h.below hb).wider hb.size
theorem POwn.below (h : POwn w lo hi E v0 v1 v2 v3 v4 v5 P) (hb : Below B w w') (hh : hi ≤ B) : POwn w' lo hi E v0 v1 v2 v3 v4 v5 P := by
  obtain ⟨l1, h1, l2, h2, o1, o2, a, b, c, d, e⟩ := h
  exact ⟨l1, h1, l2, h2, o1.below hb (by omega), o2.below hb (by omega), a, b, c, d, e⟩
theorem POwn.aside (h : POwn w lo hi E v0 v1 v2 v3 v4 v5 P) (ha : Aside lo' hi' w w') (hd : hi ≤ lo' ∨ hi' ≤ lo) : POwn w' lo hi E v0 v1 v2 v3 v4 v5 P := by
  obtain ⟨l1, h1, l2, h2, o1, o2, a, b, c, d, e⟩ := h
  exact ⟨l1, h1, l2, h2, o1.aside ha (by omega), o2.aside ha (by omega), a, b, c, d, e⟩
theorem POwn.setv (h : POwn w lo hi E v0 v1 v2 v3 v4 v5 P) (hg : g < lo ∨ hi ≤ g) (j : Nat) (u : Value) : POwn (w.setCell ⟨g, j, none⟩ u) lo hi E v0 v1 v2 v3 v4 v5 P :=
  h.aside ((Aside.refl w (lo := g) (hi := g + 1)).setCell (Nat.le_refl _) (Nat.lt_succ_self _) u) (by omega)
theorem POwn.wider (h : POwn w lo hi E v0 v1 v2 v3 v4 v5 P) (hl : lo' ≤ lo) (hh : hi ≤ hi') : POwn w lo' hi' E v0 v1 v2 v3 v4 v5 P := by
  obtain ⟨l1, h1, l2, h2, o1, o2, a, b, c, d, e⟩ := h
  exact ⟨l1, h1, l2, h2, o1, o2, by omega, by omega, by omega, by omega, e⟩
theorem POwn.in_ (h : POwn w lo hi E v0 v1 v2 v3 v4 v5 P) (f : PFit P) (hh : hi ≤ B) : PIn w B v0 v1 v2 v3 v4 v5 P := by
  obtain ⟨l1, h1, l2, h2, o1, o2, a, b, c, d, e⟩ := h
  exact ⟨o1.in_ f.1 (by omega), o2.in_ f.2 (by omega)⟩
theorem POwn.form (h : POwn w lo hi E v0 v1 v2 v3 v4 v5 P) : ∃ A c D k A' c' D' k', (v0 = .bool P.1.1.1 ∧ v1 = .slice A P.1.1.2.length c ∧ v2 = .slice D P.1.2.length k) ∧ v3 = .bool P.2.1.1 ∧ v4 = .slice A' P.2.1.2.length c' ∧ v5 = .slice D' P.2.2.length k' := by
  obtain ⟨l1, h1, l2, h2, o1, o2, _⟩ := h
  obtain ⟨A, c, D, k, e⟩ := o1.form
  obtain ⟨A', c', D', k', e'⟩ := o2.form
  exact ⟨A, c, D, k, A', c', D', k', e, e'⟩
/-- two fractions of one's own, the second made behind the first -/
theorem POwn.of {Z Y : RQ} {x y : Nat} (h : QOwn w lo x E v0 v1 v2 Z) (k : QOwn w' w.heap.size y E v3 v4 v5 Y) (hb : Below w.heap.size w w') (hx : x ≤ w.heap.size) (hl : lo ≤ w.heap.size) (hy : y ≤ hi) (hxh : x ≤ hi) : POwn w' lo hi E v0 v1 v2 v3 v4 v5 (Z, Y) :=
  ⟨lo, x, w.heap.size, y, h.below hb hx, k, Nat.le_refl _, hl, hxh, hy, .inl hx⟩
theorem POwn.zero (w : World) (lo hi : Nat) (E : TypeId) (hh : lo ≤ hi) : POwn w lo hi E (.bool false) (.slice none 0 0) (.slice none 0 0) (.bool false) (.slice none 0 0) (.slice none 0 0) (noR, noR) :=
  ⟨lo, lo, lo, lo, QOwn.zero _ _ _ _ (Nat.le_refl _), QOwn.zero _ _ _ _ (Nat.le_refl _), Nat.le_refl _, Nat.le_refl _, hh, hh, .inl (Nat.le_refl _)⟩
end
/-- the forms of three cells, of six -/
def Q3 (v0 v1 v2 : Value) : Prop := ∃ b A n c D m k, v0 = .bool b ∧ v1 = .slice A n c ∧ v2 = .slice D m k
def Q6 (v0 v1 v2 v3 v4 v5 : Value) : Prop := ∃ b A n c D m k b' A' n' c' D' m' k', v0 = .bool b ∧ v1 = .slice A n c ∧ v2 = .slice D m k ∧ v3 = .bool b' ∧ v4 = .slice A' n' c' ∧ v5 = .slice D' m' k'
theorem QIn.cut {w : World} {B : Nat} {v0 v1 v2 : Value} {Z : RQ} (h : QIn w B v0 v1 v2 Z) : Q3 v0 v1 v2 := by
  obtain ⟨A, n, c, D, m, k, e0, e1, e2, _⟩ := h
  exact ⟨_, A, n, c, D, m, k, e0, e1, e2⟩
theorem QOwn.cut {w : World} {lo hi : Nat} {E : TypeId} {v0 v1 v2 : Value} {Z : RQ} (h : QOwn w lo hi E v0 v1 v2 Z) : Q3 v0 v1 v2 := by
  obtain ⟨A, c, D, k, e0, e1, e2⟩ := h.form
  exact ⟨_, A, _, c, D, _, k, e0, e1, e2⟩
theorem Q3.and {v0 v1 v2 v3 v4 v5 : Value} (h : Q3 v0 v1 v2) (h2 : Q3 v3 v4 v5) : Q6 v0 v1 v2 v3 v4 v5 := by
  obtain ⟨b, A, n, c, D, m, k, e0, e1, e2⟩ := h
  obtain ⟨b', A', n', c', D', m', k', e3, e4, e5⟩ := h2
  exact ⟨b, A, n, c, D, m, k, b', A', n', c', D', m', k', e0, e1, e2, e3, e4, e5⟩
theorem PIn.cut {w : World} {B : Nat} {v0 v1 v2 v3 v4 v5 : Value} {P : PQ} (h : PIn w B v0 v1 v2 v3 v4 v5 P) : Q6 v0 v1 v2 v3 v4 v5 := h.1.cut.and h.2.cut
theorem POwn.cut {w : World} {lo hi : Nat} {E : TypeId} {v0 v1 v2 v3 v4 v5 : Value} {P : PQ} (h : POwn w lo hi E v0 v1 v2 v3 v4 v5 P) : Q6 v0 v1 v2 v3 v4 v5 := by
  obtain ⟨l1, h1, l2, h2, o1, o2, _⟩ := h
  exact o1.cut.and o2.cut
section
variable {w w' : World} {g : Nat} {E : TypeId} {a b c d e f : Value}
theorem Box.facts6 (h : Box w g E #[a, b, c, d, e, f]) : (w.cell? ⟨g, 0, none⟩ = some a ∧ w.cell? ⟨g, 1, none⟩ = some b ∧ w.cell? ⟨g, 2, none⟩ = some c ∧ w.cell? ⟨g, 3, none⟩ = some d ∧ w.cell? ⟨g, 4, none⟩ = some e ∧ w.cell? ⟨g, 5, none⟩ = some f) ∧ w.frozen? ⟨g, 0, none⟩ = false ∧ w.frozen? ⟨g, 1, none⟩ = false ∧ w.frozen? ⟨g, 2, none⟩ = false ∧ w.frozen? ⟨g, 3, none⟩ = false ∧ w.frozen? ⟨g, 4, none⟩ = false ∧ w.frozen? ⟨g, 5, none⟩ = false :=
  ⟨⟨h.cell 0, h.cell 1, h.cell 2, h.cell 3, h.cell 4, h.cell 5⟩, h.frozen 0, h.frozen 1, h.frozen 2, h.frozen 3, h.frozen 4, h.frozen 5⟩
theorem Box.cells6 (h : Box w g E #[a, b, c, d, e, f]) : w.cell? ⟨g, 0, none⟩ = some a ∧ w.cell? ⟨g, 1, none⟩ = some b ∧ w.cell? ⟨g, 2, none⟩ = some c ∧ w.cell? ⟨g, 3, none⟩ = some d ∧ w.cell? ⟨g, 4, none⟩ = some e ∧ w.cell? ⟨g, 5, none⟩ = some f :=
  ⟨h.cell 0, h.cell 1, h.cell 2, h.cell 3, h.cell 4, h.cell 5⟩
end
/-- a result of 3 cells, stored into its variable -/
theorem ret_q {w W : World} {g lo hi : Nat} {E F : TypeId} {x0 x1 x2 v0 v1 v2 : Value} {Z : RQ} (k : Box W g E #[x0, x1, x2]) (o : QOwn W lo hi F v0 v1 v2 Z) (hb : Below w.heap.size w W) (hg : w.heap.size ≤ g) (hl : w.heap.size ≤ lo) (hh : hi ≤ W.heap.size) (hd : g < lo ∨ hi ≤ g) :
    Box (((W.setCell ⟨g, 0, none⟩ v0).setCell ⟨g, 1, none⟩ v1).setCell ⟨g, 2, none⟩ v2) g E #[v0, v1, v2] ∧ QOwn (((W.setCell ⟨g, 0, none⟩ v0).setCell ⟨g, 1, none⟩ v1).setCell ⟨g, 2, none⟩ v2) w.heap.size (((W.setCell ⟨g, 0, none⟩ v0).setCell ⟨g, 1, none⟩ v1).setCell ⟨g, 2, none⟩ v2).heap.size F v0 v1 v2 Z ∧ Below w.heap.size w (((W.setCell ⟨g, 0, none⟩ v0).setCell ⟨g, 1, none⟩ v1).setCell ⟨g, 2, none⟩ v2) :=
  ⟨(((k.set 0 _).set 1 _).set 2 _), (((o.setv hd 0 _).setv hd 1 _).setv hd 2 _).wider hl (by simp only [setCell_size]; exact hh), (((hb.setCell (p := ⟨g, 0, none⟩) hg _).setCell (p := ⟨g, 1, none⟩) hg _).setCell (p := ⟨g, 2, none⟩) hg _)⟩
/-! the operations on whole fractions -/
def ratQ (Z : RQ) : Bool := ratB Z.1.1 Z.1.2 Z.2
def addQ (Z Y : RQ) : RQ := addR Z.1.1 Z.1.2 Z.2 Y.1.1 Y.1.2 Y.2
def signQ (Z : RQ) : Int := signR Z.1.1 Z.1.2 Z.2
def sameQ (Z Y : RQ) : Bool := sameR Z.1.1 Z.1.2 Z.2 Y.1.1 Y.1.2 Y.2
def ofQ (n m : Int) : RQ := makeR (capZ n).1 (capZ n).2 (capZ m).1 (capZ m).2
def intQ (n : Int) : RQ := (capZ n, [1])
theorem noR_fit : QFit noR := ⟨by simp [noR], by simp [noR], fun d hd => by simp [noR] at hd, fun d hd => by simp [noR] at hd⟩
theorem lowR_fit (z : Int) (d : Nat) : QFit (lowR z d) := by
  have hl := lowR_len' z d
  refine ⟨hl.1, hl.2, ?_⟩
  unfold lowR
  split
  · exact ⟨wfL_of (limbs_ok _), wfL_of (limbs_ok _)⟩
  · exact noR_fit.2.2
theorem fit_ite {c : Prop} [Decidable c] {a b : RQ} (ha : QFit a) (hb : QFit b) : QFit (if c then a else b) := by split <;> assumption
theorem ofQ_fit (n m : Int) : QFit (ofQ n m) := fit_ite (lowR_fit _ _) noR_fit
theorem intQ_fit (n : Int) : QFit (intQ n) := ⟨(ofR_len n).1, (ofR_len n).2, wfL_of (capZ_limbs n), fun d hd => by simp [intQ] at hd; subst hd; rfl⟩
/-! points -/
def validP (P : PQ) : Bool := ratQ P.1 && ratQ P.2
def sureP (P : PQ) : PQ := if validP P then P else (noR, noR)
end Go.Proofs.Ytdcceppednngjab

/-
  The contracts on fractions, told over whole fractions: both sides.
-/



namespace Go.Proofs.Ytdcceppednngjab
open Go.RowKit
set_option linter.unusedVariables false
theorem impl_sameQ (w : World) (B : Nat) (hB : B ≤ w.heap.size) {v0 v1 v2 : Value} {Z : RQ} (h : QIn w B v0 v1 v2 Z) {u0 u1 u2 : Value} {Y : RQ} (h' : QIn w B u0 u1 u2 Y) :
    Calls Try.prog 6 #[.agg #[v0, v1, v2], .agg #[u0, u1, u2]] w fun e w' => e = .returned (.bool (sameQ Z Y)) ∧ Below w.heap.size w w' := by
  obtain ⟨A, n, c, D, m, k, rfl, rfl, rfl, r1, r2, c1, c2⟩ := h
  obtain ⟨A', n', c', D', m', k', rfl, rfl, rfl, r1', r2', c1', c2'⟩ := h'
  exact impl_RatEqual w B hB Z.1.1 A n c Z.1.2 r1 D m k Z.2 r2 Y.1.1 A' n' c' Y.1.2 r1' D' m' k' Y.2 r2'
theorem impl_ratQ (w : World) (B : Nat) (hB : B ≤ w.heap.size) {v0 v1 v2 : Value} {Z : RQ} (h : QIn w B v0 v1 v2 Z) :
    Calls Try.prog 17 #[.agg #[v0, v1, v2]] w fun e w' => e = .returned (.bool (ratQ Z)) ∧ Below w.heap.size w w' := by
  obtain ⟨A, n, c, D, m, k, rfl, rfl, rfl, r1, r2, c1, c2⟩ := h
  exact impl_ratValid w B hB Z.1.1 A n c Z.1.2 r1 D m k Z.2 r2
theorem impl_ofQ (w : World) (n m : Int) (hn : (Lit.int .i64 n).wf = true) (hm : (Lit.int .i64 m).wf = true) :
    Calls Try.prog 15 #[.int .i64 n, .int .i64 m] w fun e w' => QRes 3 w w' e (ofQ n m) :=
  (impl_RatOf w n m hn hm).mono fun e w' h => QRes.of h
theorem impl_intQ (w : World) (n : Int) (hn : (Lit.int .i64 n).wf = true) :
    Calls Try.prog 8 #[.int .i64 n] w fun e w' => QRes 3 w w' e (intQ n) :=
  (impl_RatFromInt w n hn).mono fun e w' h => QRes.of h
end Go.Proofs.Ytdcceppednngjab
