/-
  The texts RatL, PtL, put together; each has its own heading below. No condition of ours.
-/
import Derived.Test.YtdcceppednngjaaOwn
import Derived.Test.YtdcceppednngjaaPB
import Derived.Deep.CutRange
import Derived.Test.YtdcceppednngjaaPtM
/-
  The laws' helpers for fractions: szRat, toRat, eqRat, markRat, heldRat: contracts.
-/



namespace Go.Proofs.Ytdcceppednngjaa
open Go.RowKit
set_option linter.unusedVariables false
/-- two lists of the call's own, in stretches apart, all from block lo up to hi -/
def PairH (w : World) (lo hi : Nat) (E : TypeId) (v1 : Value) (n1 : Nat) (X1 : List Value) (v2 : Value) (n2 : Nat) (X2 : List Value) : Prop :=
  ∃ l1 h1 l2 h2, Own w l1 h1 E v1 n1 X1 ∧ Own w l2 h2 E v2 n2 X2 ∧ lo ≤ l1 ∧ lo ≤ l2 ∧ h1 ≤ hi ∧ h2 ≤ hi ∧ (h1 ≤ l2 ∨ h2 ≤ l1)
def BothH (w : World) (lo hi : Nat) (E : TypeId) (v1 : Value) (n1 : Nat) (X1 : List Value) (v2 : Value) (n2 : Nat) (X2 : List Value) : Prop :=
  Own w lo hi E v1 n1 X1 ∧ Own w lo hi E v2 n2 X2
section
variable {w w' : World} {lo hi lo' hi' n1 n2 B c1 c2 : Nat} {E : TypeId} {v1 v2 : Value} {X1 X2 : List Value} {A1 A2 : Option Addr}
theorem PairH.both (h : PairH w lo hi E v1 n1 X1 v2 n2 X2) : BothH w lo hi E v1 n1 X1 v2 n2 X2 := by
  obtain ⟨l1, h1, l2, h2, o1, o2, a, b, c, d, _⟩ := h
  exact ⟨o1.wider a c, o2.wider b d⟩
theorem PairH.below (h : PairH w lo hi E v1 n1 X1 v2 n2 X2) (hb : Below B w w') (hh : hi ≤ B) : PairH w' lo hi E v1 n1 X1 v2 n2 X2 := by
  obtain ⟨l1, h1, l2, h2, o1, o2, a, b, c, d, e⟩ := h
  exact ⟨l1, h1, l2, h2, o1.below hb (by omega), o2.below hb (by omega), a, b, c, d, e⟩
theorem BothH.below (h : BothH w lo hi E v1 n1 X1 v2 n2 X2) (hb : Below B w w') (hh : hi ≤ B) : BothH w' lo hi E v1 n1 X1 v2 n2 X2 := ⟨h.1.below hb hh, h.2.below hb hh⟩
theorem PairH.aside (h : PairH w lo hi E v1 n1 X1 v2 n2 X2) (ha : Aside lo' hi' w w') (hd : hi ≤ lo' ∨ hi' ≤ lo) : PairH w' lo hi E v1 n1 X1 v2 n2 X2 := by
  obtain ⟨l1, h1, l2, h2, o1, o2, a, b, c, d, e⟩ := h
  exact ⟨l1, h1, l2, h2, o1.aside ha (by omega), o2.aside ha (by omega), a, b, c, d, e⟩
theorem BothH.aside (h : BothH w lo hi E v1 n1 X1 v2 n2 X2) (ha : Aside lo' hi' w w') (hd : hi ≤ lo' ∨ hi' ≤ lo) : BothH w' lo hi E v1 n1 X1 v2 n2 X2 := ⟨h.1.aside ha hd, h.2.aside ha hd⟩
theorem PairH.form (h : PairH w lo hi E v1 n1 X1 v2 n2 X2) : ∃ A1 c1 A2 c2, v1 = .slice A1 n1 c1 ∧ v2 = .slice A2 n2 c2 := by
  obtain ⟨l1, h1, l2, h2, o1, o2, _⟩ := h
  obtain ⟨A1, c1, e1⟩ := o1.form
  obtain ⟨A2, c2, e2⟩ := o2.form
  exact ⟨A1, c1, A2, c2, e1, e2⟩
theorem BothH.form (h : BothH w lo hi E v1 n1 X1 v2 n2 X2) : ∃ A1 c1 A2 c2, v1 = .slice A1 n1 c1 ∧ v2 = .slice A2 n2 c2 := by
  obtain ⟨A1, c1, e1⟩ := h.1.form
  obtain ⟨A2, c2, e2⟩ := h.2.form
  exact ⟨A1, c1, A2, c2, e1, e2⟩
end
theorem Pair.hull {w : World} {B : Nat} {E : TypeId} {v1 v2 : Value} {xs ys : List Int} (h : Pair w B E v1 xs v2 ys) : PairH w B w.heap.size E v1 xs.length (iv xs) v2 ys.length (iv ys) := h
end Go.Proofs.Ytdcceppednngjaa

/-
  The laws' helpers told over whole fractions, and the same for vectors and points: szPoint, toVec, toPoint, eqVec, eqPoint, markPoint, heldPoint.
-/


namespace Go.Proofs.Ytdcceppednngjaa
open Go.RowKit
set_option linter.unusedVariables false
/-- three cells with two lists of L elements in all -/
def QLen (v0 v1 v2 : Value) (L : Nat) : Prop := ∃ s A n c D m d, v0 = .bool s ∧ v1 = .slice A n c ∧ v2 = .slice D m d ∧ L = n + m ∧ n ≤ 9223372036854775807 ∧ m ≤ 9223372036854775807
/-- a fraction that came in -/
def QRow (w : World) (v0 v1 v2 : Value) : Prop := ∃ s A n c z D m d y, v0 = .bool s ∧ v1 = .slice A n c ∧ v2 = .slice D m d ∧ IsRow .i64 w A n c z ∧ IsRow .i64 w D m d y
theorem IsRow.cap {w : World} {a : Option Addr} {len cap : Nat} {zs : List Int} (h : IsRow .i64 w a len cap zs) : len ≤ cap ∧ cap ≤ maxLen := by
  rcases h with ⟨_, rfl, rfl, _⟩ | ⟨x, _, h1, h2, _⟩
  · exact ⟨Nat.le_refl _, Nat.zero_le _⟩
  · exact ⟨h1, h2⟩
theorem QRow.len {w : World} {v0 v1 v2 : Value} (h : QRow w v0 v1 v2) : ∃ L, QLen v0 v1 v2 L ∧ (L ≤ 1048576 → ∃ Z, QIn w w.heap.size v0 v1 v2 Z) := by
  obtain ⟨s, A, n, c, z, D, m, d, y, e0, e1, e2, r1, r2⟩ := h
  have c1 := r1.cap
  have c2 := r2.cap
  have hm1 := c1.2
  have hm2 := c2.2
  unfold maxLen at hm1 hm2
  refine ⟨n + m, ⟨s, A, n, c, D, m, d, e0, e1, e2, rfl, by omega, by omega⟩, fun hl => ?_⟩
  obtain ⟨xs, hx⟩ := r1.rdI (by omega)
  obtain ⟨ds, hd⟩ := r2.rdI (by omega)
  exact ⟨((s, xs), ds), A, n, c, D, m, d, e0, e1, e2, hx, hd, c1, c2⟩
/-! vectors -/
theorem Try.sizeVec : (Try.prog.info? 27).map (·.size) = some 2 := by kernel_rfl
theorem toVec_any (w : World) (x y : Int) (hx : (Lit.int .i64 x).wf = true) (hy : (Lit.int .i64 y).wf = true) :
    Calls Try.prog 29 #[.agg #[.int .i64 x, .int .i64 y]] w fun e w' => e = .returned (.agg #[.int .i64 x, .int .i64 y]) ∧ Below w.heap.size w w' := by
  obtain ⟨hx1, hx2⟩ := bounds_i64 hx
  obtain ⟨hy1, hy2⟩ := bounds_i64 hy
  go_enter Try.func29, Try.ntmps29
  go_wp2_with fail
  refine bodyPost_ret (results_cell_row rfl _ _ (w.heap.size + 1) _ #[.int .i64 x, .int .i64 y] (0, 0) _ rfl (show Box _ _ 27 #[.int .i64 x, .int .i64 y] from (Box.last _ _ _ (alloc_size _ _).symm).alloc _) Try.underlying27 rfl Try.sizeVec) rfl ?_
  · exact ⟨rfl, below_alloc (below_alloc (below_new _ _) _) _⟩
theorem eqVec_any (w : World) (x y : Int) (hx : (Lit.int .i64 x).wf = true) (hy : (Lit.int .i64 y).wf = true) :
    Calls Try.prog 72 #[.agg #[.int .i64 x, .int .i64 y], .agg #[.int .i64 x, .int .i64 y]] w fun e w' => e = .returned (.bool true) ∧ Below w.heap.size w w' := by
  obtain ⟨hx1, hx2⟩ := bounds_i64 hx
  obtain ⟨hy1, hy2⟩ := bounds_i64 hy
  go_enter Try.func72, Try.ntmps72
  go_wp2_with fail
  go_ret
  exact ⟨rfl, below_alloc (below_new _ _) _⟩
/-- six cells with lists of L elements in all -/
def PLen (v0 v1 v2 v3 v4 v5 : Value) (L : Nat) : Prop := ∃ n m, QLen v0 v1 v2 n ∧ QLen v3 v4 v5 m ∧ L = n + m
def PRow (w : World) (v0 v1 v2 v3 v4 v5 : Value) : Prop := QRow w v0 v1 v2 ∧ QRow w v3 v4 v5
theorem PRow.len {w : World} {v0 v1 v2 v3 v4 v5 : Value} (h : PRow w v0 v1 v2 v3 v4 v5) : ∃ L, PLen v0 v1 v2 v3 v4 v5 L ∧ (L ≤ 1048576 → ∃ P, PIn w w.heap.size v0 v1 v2 v3 v4 v5 P) := by
  obtain ⟨n, h1, k1⟩ := h.1.len
  obtain ⟨m, h2, k2⟩ := h.2.len
  refine ⟨n + m, ⟨n, m, h1, h2, rfl⟩, fun hl => ?_⟩
  obtain ⟨Z, hZ⟩ := k1 (by omega)
  obtain ⟨Y, hY⟩ := k2 (by omega)
  exact ⟨(Z, Y), hZ, hY⟩
end Go.Proofs.Ytdcceppednngjaa
