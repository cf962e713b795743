/-
  Segments: what the functions on fractions answer (inner product, square of the distance from a segment); the contracts on whole fractions that PtQ lacks.
-/
import Derived.Test.YtcpncoonbdbkmaaGreatQR
import Derived.Test.YtcpncoonbdbkmaaGreatPtM
namespace Go.Proofs.YtcpncoonbdbkmaaGreat
open Go.RowKit
set_option linter.unusedVariables false
def minQ (Z Y : RQ) : RQ := minR Z.1.1 Z.1.2 Z.2 Y.1.1 Y.1.2 Y.2
def maxQ (Z Y : RQ) : RQ := maxR Z.1.1 Z.1.2 Z.2 Y.1.1 Y.1.2 Y.2
theorem ratB_wf {s : Bool} {xs ds : List Int} (h : ratB s xs ds = true) : QFit ((s, xs), ds) := by
  have h1 := ratB_short h
  have h2 := bigB_nat (ratB_big h)
  have h3 := ratB_den h
  exact ⟨by show xs.length ≤ _; omega, by show ds.length ≤ _; omega, wfL_of ((natB_iff xs).1 h2).1.1, wfL_of ((natB_iff ds).1 h3).1.1⟩
/-- a fraction of one's own whose lists need not lie apart -/
def ROwn (w : World) (lo hi : Nat) (E : TypeId) (v0 v1 v2 : Value) (Z : RQ) : Prop := v0 = .bool Z.1.1 ∧ Own w lo hi E v1 Z.1.2.length (iv Z.1.2) ∧ Own w lo hi E v2 Z.2.length (iv Z.2)
def RRes (TI : TypeId) (w w' : World) (e : Ending) (Z : RQ) : Prop :=
  ∃ v0 v1 v2, e = .returned (.agg #[v0, v1, v2]) ∧ ROwn w' w.heap.size w'.heap.size TI v0 v1 v2 Z ∧ Below w.heap.size w w'
section
variable {w w' : World} {B lo hi lo' hi' g : Nat} {E : TypeId} {v0 v1 v2 : Value} {Z : RQ}
theorem ROwn.below (h : ROwn w lo hi E v0 v1 v2 Z) (hb : Below B w w') (hh : hi ≤ B) : ROwn w' lo hi E v0 v1 v2 Z := ⟨h.1, h.2.1.below hb hh, h.2.2.below hb hh⟩
theorem ROwn.aside (h : ROwn w lo hi E v0 v1 v2 Z) (ha : Aside lo' hi' w w') (hd : hi ≤ lo' ∨ hi' ≤ lo) : ROwn w' lo hi E v0 v1 v2 Z := ⟨h.1, h.2.1.aside ha hd, h.2.2.aside ha hd⟩
theorem ROwn.setv (h : ROwn w lo hi E v0 v1 v2 Z) (hg : g < lo ∨ hi ≤ g) (j : Nat) (u : Value) : ROwn (w.setCell ⟨g, j, none⟩ u) lo hi E v0 v1 v2 Z := ⟨h.1, h.2.1.setv hg j u, h.2.2.setv hg j u⟩
theorem ROwn.wider (h : ROwn w lo hi E v0 v1 v2 Z) (hl : lo' ≤ lo) (hh : hi ≤ hi') : ROwn w lo' hi' E v0 v1 v2 Z := ⟨h.1, h.2.1.wider hl hh, h.2.2.wider hl hh⟩
theorem ROwn.in_ (h : ROwn w lo hi E v0 v1 v2 Z) (f : QFit Z) (hh : hi ≤ B) : QIn w B v0 v1 v2 Z := by
  obtain ⟨e0, o1, o2⟩ := h
  obtain ⟨A, x, rfl⟩ := o1.form
  obtain ⟨D, y, rfl⟩ := o2.form
  exact ⟨A, _, x, D, _, y, e0, rfl, rfl, ⟨rfl, o1.rdB hh, f.1, f.2.2.1⟩, ⟨rfl, o2.rdB hh, f.2.1, f.2.2.2⟩, o1.cap, o2.cap⟩
theorem ROwn.cut (h : ROwn w lo hi E v0 v1 v2 Z) : Q3 v0 v1 v2 := by
  obtain ⟨e0, o1, o2⟩ := h
  obtain ⟨A, x, rfl⟩ := o1.form
  obtain ⟨D, y, rfl⟩ := o2.form
  exact ⟨_, A, _, x, D, _, y, e0, rfl, rfl⟩
theorem PIn.setv {w : World} {g l1 h1 l2 h2 B : Nat} {E : TypeId} {v0 v1 v2 v3 v4 v5 : Value} {P : PQ} (o1 : QOwn w l1 h1 E v0 v1 v2 P.1) (o2 : QOwn w l2 h2 E v3 v4 v5 P.2) (f : PFit P) (d1 : g < l1 ∨ h1 ≤ g) (d2 : g < l2 ∨ h2 ≤ g) (b1 : h1 ≤ B) (b2 : h2 ≤ B) (x0 x1 x2 x3 x4 x5 : Value) :
    PIn ((((((w.setCell ⟨g, 0, none⟩ x0).setCell ⟨g, 1, none⟩ x1).setCell ⟨g, 2, none⟩ x2).setCell ⟨g, 3, none⟩ x3).setCell ⟨g, 4, none⟩ x4).setCell ⟨g, 5, none⟩ x5) B v0 v1 v2 v3 v4 v5 P :=
  ⟨((((((o1.setv d1 0 _).setv d1 1 _).setv d1 2 _).setv d1 3 _).setv d1 4 _).setv d1 5 _).in_ f.1 b1, ((((((o2.setv d2 0 _).setv d2 1 _).setv d2 2 _).setv d2 3 _).setv d2 4 _).setv d2 5 _).in_ f.2 b2⟩
theorem QOwn.r (h : QOwn w lo hi E v0 v1 v2 Z) : ROwn w lo hi E v0 v1 v2 Z := by
  obtain ⟨e0, l1, h1, l2, h2, o1, o2, a, b, c, d, _⟩ := h
  exact ⟨e0, o1.wider a c, o2.wider b d⟩
end
theorem RRes.of {TI : TypeId} {w w' : World} {e : Ending} {Z : RQ} (h : RatRef TI w w' e Z) : RRes TI w w' e Z := by
  obtain ⟨v, d, rfl, ⟨o1, o2⟩, hb⟩ := h
  exact ⟨_, v, d, rfl, ⟨rfl, o1, o2⟩, hb⟩
end Go.Proofs.YtcpncoonbdbkmaaGreat
