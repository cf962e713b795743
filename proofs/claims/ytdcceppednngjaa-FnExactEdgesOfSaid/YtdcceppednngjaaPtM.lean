/-
  Fractions and points as cells: what a function is handed, what is in memory of a call's own; the operations on fractions, each over whole fractions.
-/
import Derived.Test.YtdcceppednngjaaPB
namespace Go.Proofs.Ytdcceppednngjaa
open Go.RowKit
set_option linter.unusedVariables false

abbrev RQ := (Bool × List Int) × List Int
abbrev PQ := RQ × RQ
/-- three cells that are the fraction Z, its lists readable below block B -/
def QIn (w : World) (B : Nat) (v0 v1 v2 : Value) (Z : RQ) : Prop :=
  ∃ A n c D m k, v0 = .bool Z.1.1 ∧ v1 = .slice A n c ∧ v2 = .slice D m k ∧ RdI w B A n Z.1.2 ∧ RdI w B D m Z.2 ∧ (n ≤ c ∧ c ≤ maxLen) ∧ (m ≤ k ∧ k ≤ maxLen)
/-- three cells that are the fraction Z, its lists in memory of one's own, apart, from block lo up to hi -/
def QOwn (w : World) (lo hi : Nat) (E : TypeId) (v0 v1 v2 : Value) (Z : RQ) : Prop :=
  v0 = .bool Z.1.1 ∧ ∃ l1 h1 l2 h2, Own w l1 h1 E v1 Z.1.2.length (iv Z.1.2) ∧ Own w l2 h2 E v2 Z.2.length (iv Z.2) ∧ lo ≤ l1 ∧ lo ≤ l2 ∧ h1 ≤ hi ∧ h2 ≤ hi ∧ (h1 ≤ l2 ∨ h2 ≤ l1)
def QRes (TI : TypeId) (w w' : World) (e : Ending) (Z : RQ) : Prop :=
  ∃ v0 v1 v2, e = .returned (.agg #[v0, v1, v2]) ∧ QOwn w' w.heap.size w'.heap.size TI v0 v1 v2 Z ∧ Below w.heap.size w w'
section
variable {w w' : World} {B B' lo hi lo' hi' g : Nat} {E : TypeId} {v0 v1 v2 : Value} {Z : RQ}
theorem QIn.below (h : QIn w B v0 v1 v2 Z) (hb : Below B w w') : QIn w' B v0 v1 v2 Z := by
  obtain ⟨A, n, c, D, m, k, e0, e1, e2, r1, r2, r⟩ := h
  exact ⟨A, n, c, D, m, k, e0, e1, e2, r1.below hb, r2.below hb, r⟩
theorem QIn.wider (h : QIn w B v0 v1 v2 Z) (hB : B ≤ B') : QIn w B' v0 v1 v2 Z := by
  obtain ⟨A, n, c, D, m, k, e0, e1, e2, r1, r2, r⟩ := h
  exact ⟨A, n, c, D, m, k, e0, e1, e2, ⟨r1.1, r1.2.1.wider hB, r1.2.2⟩, ⟨r2.1, r2.2.1.wider hB, r2.2.2⟩, r⟩
theorem QIn.up (h : QIn w w.heap.size v0 v1 v2 Z) (hb : Below w.heap.size w w') : QIn w' w'.heap.size v0 v1 v2 Z := (h.below hb).wider hb.size
theorem QOwn.below (h : QOwn w lo hi E v0 v1 v2 Z) (hb : Below B w w') (hh : hi ≤ B) : QOwn w' lo hi E v0 v1 v2 Z := by
  obtain ⟨e0, l1, h1, l2, h2, o1, o2, a, b, c, d, e⟩ := h
  exact ⟨e0, l1, h1, l2, h2, o1.below hb (by omega), o2.below hb (by omega), a, b, c, d, e⟩
theorem QOwn.aside (h : QOwn w lo hi E v0 v1 v2 Z) (ha : Aside lo' hi' w w') (hd : hi ≤ lo' ∨ hi' ≤ lo) : QOwn w' lo hi E v0 v1 v2 Z := by
  obtain ⟨e0, l1, h1, l2, h2, o1, o2, a, b, c, d, e⟩ := h
  exact ⟨e0, l1, h1, l2, h2, o1.aside ha (by omega), o2.aside ha (by omega), a, b, c, d, e⟩
theorem QOwn.wider (h : QOwn w lo hi E v0 v1 v2 Z) (hl : lo' ≤ lo) (hh : hi ≤ hi') : QOwn w lo' hi' E v0 v1 v2 Z := by
  obtain ⟨e0, l1, h1, l2, h2, o1, o2, a, b, c, d, e⟩ := h
  exact ⟨e0, l1, h1, l2, h2, o1, o2, by omega, by omega, by omega, by omega, e⟩
theorem QOwn.form (h : QOwn w lo hi E v0 v1 v2 Z) : ∃ A c D k, v0 = .bool Z.1.1 ∧ v1 = .slice A Z.1.2.length c ∧ v2 = .slice D Z.2.length k := by
  obtain ⟨e0, l1, h1, l2, h2, o1, o2, _⟩ := h
  obtain ⟨A, x, rfl⟩ := o1.form
  obtain ⟨D, y, rfl⟩ := o2.form
  exact ⟨A, x, D, y, e0, rfl, rfl⟩
theorem QRes.of {TI : TypeId} {e : Ending} (h : RatRes TI w w' e Z) : QRes TI w w' e Z := by
  obtain ⟨v, d, rfl, hp, hb⟩ := h
  exact ⟨_, v, d, rfl, ⟨rfl, hp⟩, hb⟩
theorem QOwn.zero (w : World) (lo hi : Nat) (E : TypeId) (hh : lo ≤ hi) : QOwn w lo hi E (.bool false) (.slice none 0 0) (.slice none 0 0) noR :=
  ⟨rfl, lo, lo, lo, lo, Own.nil _ _ _ _, Own.nil _ _ _ _, Nat.le_refl _, Nat.le_refl _, hh, hh, .inl (Nat.le_refl _)⟩
end
/-- six cells that are a point -/
def PIn (w : World) (B : Nat) (v0 v1 v2 v3 v4 v5 : Value) (P : PQ) : Prop := QIn w B v0 v1 v2 P.1 ∧ QIn w B v3 v4 v5 P.2
def POwn (w : World) (lo hi : Nat) (E : TypeId) (v0 v1 v2 v3 v4 v5 : Value) (P : PQ) : Prop :=
  ∃ l1 h1 l2 h2, QOwn w l1 h1 E v0 v1 v2 P.1 ∧ QOwn w l2 h2 E v3 v4 v5 P.2 ∧ lo ≤ l1 ∧ lo ≤ l2 ∧ h1 ≤ hi ∧ h2 ≤ hi ∧ (h1 ≤ l2 ∨ h2 ≤ l1)
section
variable {w w' : World} {B B' lo hi lo' hi' g : Nat} {E : TypeId} {v0 v1 v2 v3 v4 v5 : Value} {P : PQ}
theorem PIn.below (h : PIn w B v0 v1 v2 v3 v4 v5 P) (hb : Below B w w') : PIn w' B v0 v1 v2 v3 v4 v5 P := ⟨h.1.below hb, h.2.below hb⟩
theorem PIn.wider (h : PIn w B v0 v1 v2 v3 v4 v5 P) (hB : B ≤ B') : PIn w B' v0 v1 v2 v3 v4 v5 P := ⟨h.1.wider hB, h.2.wider hB⟩
theorem PIn.up (h : PIn w w.heap.size v0 v1 v2 v3 v4 v5 P) (hb : Below w.heap.size w w') : PIn w' w'.heap.size v0 v1 v2 v3 v4 v5 P := (h.below hb).wider hb.size
theorem POwn.below (h : POwn w lo hi E v0 v1 v2 v3 v4 v5 P) (hb : Below B w w') (hh : hi ≤ B) : POwn w' lo hi E v0 v1 v2 v3 v4 v5 P := by
  obtain ⟨l1, h1, l2, h2, o1, o2, a, b, c, d, e⟩ := h
  exact ⟨l1, h1, l2, h2, o1.below hb (by omega), o2.below hb (by omega), a, b, c, d, e⟩
theorem POwn.aside (h : POwn w lo hi E v0 v1 v2 v3 v4 v5 P) (ha : Aside lo' hi' w w') (hd : hi ≤ lo' ∨ hi' ≤ lo) : POwn w' lo hi E v0 v1 v2 v3 v4 v5 P := by
  obtain ⟨l1, h1, l2, h2, o1, o2, a, b, c, d, e⟩ := h
  exact ⟨l1, h1, l2, h2, o1.aside ha (by omega), o2.aside ha (by omega), a, b, c, d, e⟩
theorem POwn.wider (h : POwn w lo hi E v0 v1 v2 v3 v4 v5 P) (hl : lo' ≤ lo) (hh : hi ≤ hi') : POwn w lo' hi' E v0 v1 v2 v3 v4 v5 P := by
  obtain ⟨l1, h1, l2, h2, o1, o2, a, b, c, d, e⟩ := h
  exact ⟨l1, h1, l2, h2, o1, o2, by omega, by omega, by omega, by omega, e⟩
theorem POwn.form (h : POwn w lo hi E v0 v1 v2 v3 v4 v5 P) : ∃ A c D k A' c' D' k', (v0 = .bool P.1.1.1 ∧ v1 = .slice A P.1.1.2.length c ∧ v2 = .slice D P.1.2.length k) ∧ v3 = .bool P.2.1.1 ∧ v4 = .slice A' P.2.1.2.length c' ∧ v5 = .slice D' P.2.2.length k' := by
  obtain ⟨l1, h1, l2, h2, o1, o2, _⟩ := h
  obtain ⟨A, c, D, k, e⟩ := o1.form
  obtain ⟨A', c', D', k', e'⟩ := o2.form
  exact ⟨A, c, D, k, A', c', D', k', e, e'⟩
/-- two fractions of one's own, the second made behind the first -/
theorem POwn.of {Z Y : RQ} {x y : Nat} (h : QOwn w lo x E v0 v1 v2 Z) (k : QOwn w' w.heap.size y E v3 v4 v5 Y) (hb : Below w.heap.size w w') (hx : x ≤ w.heap.size) (hl : lo ≤ w.heap.size) (hy : y ≤ hi) (hxh : x ≤ hi) : POwn w' lo hi E v0 v1 v2 v3 v4 v5 (Z, Y) :=
  ⟨lo, x, w.heap.size, y, h.below hb hx, k, Nat.le_refl _, hl, hxh, hy, .inl hx⟩
theorem POwn.zero (w : World) (lo hi : Nat) (E : TypeId) (hh : lo ≤ hi) : POwn w lo hi E (.bool false) (.slice none 0 0) (.slice none 0 0) (.bool false) (.slice none 0 0) (.slice none 0 0) (noR, noR) :=
  ⟨lo, lo, lo, lo, QOwn.zero _ _ _ _ (Nat.le_refl _), QOwn.zero _ _ _ _ (Nat.le_refl _), Nat.le_refl _, Nat.le_refl _, hh, hh, .inl (Nat.le_refl _)⟩
end
/-- the forms of three cells, of six -/
def Q3 (v0 v1 v2 : Value) : Prop := ∃ b A n c D m k, v0 = .bool b ∧ v1 = .slice A n c ∧ v2 = .slice D m k
def Q6 (v0 v1 v2 v3 v4 v5 : Value) : Prop := ∃ b A n c D m k b' A' n' c' D' m' k', v0 = .bool b ∧ v1 = .slice A n c ∧ v2 = .slice D m k ∧ v3 = .bool b' ∧ v4 = .slice A' n' c' ∧ v5 = .slice D' m' k'
theorem QIn.cut {w : World} {B : Nat} {v0 v1 v2 : Value} {Z : RQ} (h : QIn w B v0 v1 v2 Z) : Q3 v0 v1 v2 := by
  obtain ⟨A, n, c, D, m, k, e0, e1, e2, _⟩ := h
  exact ⟨_, A, n, c, D, m, k, e0, e1, e2⟩
theorem QOwn.cut {w : World} {lo hi : Nat} {E : TypeId} {v0 v1 v2 : Value} {Z : RQ} (h : QOwn w lo hi E v0 v1 v2 Z) : Q3 v0 v1 v2 := by
  obtain ⟨A, c, D, k, e0, e1, e2⟩ := h.form
  exact ⟨_, A, _, c, D, _, k, e0, e1, e2⟩
theorem Q3.and {v0 v1 v2 v3 v4 v5 : Value} (h : Q3 v0 v1 v2) (h2 : Q3 v3 v4 v5) : Q6 v0 v1 v2 v3 v4 v5 := by
  obtain ⟨b, A, n, c, D, m, k, e0, e1, e2⟩ := h
  obtain ⟨b', A', n', c', D', m', k', e3, e4, e5⟩ := h2
  exact ⟨b, A, n, c, D, m, k, b', A', n', c', D', m', k', e0, e1, e2, e3, e4, e5⟩
theorem PIn.cut {w : World} {B : Nat} {v0 v1 v2 v3 v4 v5 : Value} {P : PQ} (h : PIn w B v0 v1 v2 v3 v4 v5 P) : Q6 v0 v1 v2 v3 v4 v5 := h.1.cut.and h.2.cut
theorem POwn.cut {w : World} {lo hi : Nat} {E : TypeId} {v0 v1 v2 v3 v4 v5 : Value} {P : PQ} (h : POwn w lo hi E v0 v1 v2 v3 v4 v5 P) : Q6 v0 v1 v2 v3 v4 v5 := by
  obtain ⟨l1, h1, l2, h2, o1, o2, _⟩ := h
  exact o1.cut.and o2.cut
section
variable {w w' : World} {g : Nat} {E : TypeId} {a b c d e f : Value}
theorem Box.cells6 (h : Box w g E #[a, b, c, d, e, f]) : w.cell? ⟨g, 0, none⟩ = some a ∧ w.cell? ⟨g, 1, none⟩ = some b ∧ w.cell? ⟨g, 2, none⟩ = some c ∧ w.cell? ⟨g, 3, none⟩ = some d ∧ w.cell? ⟨g, 4, none⟩ = some e ∧ w.cell? ⟨g, 5, none⟩ = some f :=
  ⟨h.cell 0, h.cell 1, h.cell 2, h.cell 3, h.cell 4, h.cell 5⟩
end
/-! the operations on whole fractions -/
/-! points -/
end Go.Proofs.Ytdcceppednngjaa
