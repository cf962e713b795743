/-
  The texts PolA, put together; each has its own heading below. No condition of ours.
-/
import Derived.Test.YtafhhemojdblpaaDoorHM
/-
  A polygon's area: the sum of triangles, the sum of products.
-/

namespace Go.Proofs.YtafhhemojdblpaaDoor
open Go.RowKit
set_option linter.unusedVariables false
/-- the triangles at the first corner, up to corner k -/
def fanN (l : List V2) : Nat → Int
  | 0 => 0
  | k + 1 => fanN l k + (if 2 ≤ k then tn (atV l 0) (atV l (k - 1)) (atV l k) else 0)
noncomputable def areaB (l : List V2) : Int := if polyB l = true then area2 l else 0
theorem fan_snoc2 (a : V2) : ∀ (xs : List V2) (b c : V2), fan a (xs ++ [b, c]) = fan a (xs ++ [b]) + tn a b c := by
  intro xs
  induction xs with
  | nil => intro b c; simp [fan]
  | cons x xs ih =>
    intro b c
    match xs, ih with
    | [], _ => simp [fan]
    | y :: xs, ih =>
      have := ih b c
      simp only [List.cons_append, fan] at this ⊢
      omega
theorem take_snoc {l : List V2} {k : Nat} (h : k < l.length) : l.take (k + 1) = l.take k ++ [atV l k] := by
  rw [List.take_succ_eq_append_getElem h, atV_eq h]
theorem fanN_take (a : V2) (r : List V2) : ∀ k, k ≤ r.length → fanN (a :: r) (k + 1) = fan a (r.take k) := by
  intro k
  induction k with
  | zero => intro _; simp [fanN, fan]
  | succ k ih =>
    intro hk
    rw [fanN, ih (by omega)]
    match k, ih with
    | 0, _ =>
      have : r.take 1 = r.take 0 ++ [atV r 0] := take_snoc (by omega)
      rw [this]; simp [fan]
    | k + 1, _ =>
      rw [if_pos (by omega)]
      have e1 : r.take (k + 1 + 1) = r.take k ++ [atV r k, atV r (k + 1)] := by rw [take_snoc (by omega), take_snoc (by omega), List.append_assoc]; rfl
      have e2 : r.take (k + 1) = r.take k ++ [atV r k] := take_snoc (by omega)
      rw [e1, e2, fan_snoc2]
      rfl
theorem fanN_all {l : List V2} (h : l ≠ []) : fanN l l.length = area2 l := by
  match l, h with
  | a :: r, _ =>
    rw [List.length_cons, fanN_take a r r.length (Nat.le_refl _), List.take_length]
    rfl
/-- bounds -/
theorem tn_small {a b c : V2} (ha : vecV a = true) (hb : vecV b = true) (hc : vecV c = true) : -8000000 ≤ tn a b c ∧ tn a b c ≤ 8000000 := by
  have h1 := vecB_bounds ha
  have h2 := vecB_bounds hb
  have h3 := vecB_bounds hc
  have k1 := mul_bounds (a := b.1 - a.1) (b := c.2 - a.2) (by omega) (by omega)
  have k2 := mul_bounds (a := b.2 - a.2) (b := c.1 - a.1) (by omega) (by omega)
  unfold tn
  omega
theorem fanN_small {l : List V2} (h : polyP l) : ∀ k, k ≤ l.length → -8000000 * (k : Int) ≤ fanN l k ∧ fanN l k ≤ 8000000 * (k : Int) := by
  intro k
  induction k with
  | zero => intro _; simp [fanN]
  | succ k ih =>
    intro hk
    have := ih (by omega)
    rw [fanN]
    split
    · have := tn_small (poly_vec h (k := 0) (by omega)) (poly_vec h (k := k - 1) (by omega)) (poly_vec h (k := k) (by omega))
      omega
    · omega
end Go.Proofs.YtafhhemojdblpaaDoor
