/-
  The texts NatM, BigM, RatP, RatM, DivP, AppL, GcdP, put together; each has its own heading below. No condition of ours.
-/
import Derived.Test.YtdcceppednngjaaOwn
import Derived.Test.YtdcceppednngjaaPA
import Derived.Test.YtdcceppednngjaaMem
import Derived.Laws.AppendOwnNone
import Derived.Lib.SmallJoins
import Derived.Deep.AppendLies
import Derived.Deep.RegionLaw
import Derived.Deep.RegionHeldLaw
/-
  Small words for naturals and for lists of the call's own: what no function is named in.
-/




namespace Go.Proofs.Ytdcceppednngjaa
open Go.RowKit
set_option linter.unusedVariables false

/-! ### l02Trim -/
/-! ### l02Cap -/
theorem add_step {P va q x y tx ty N : Int} (h : va + P * q = tx + ty) (hN : N = q + x + y) : va + P * (N % 1000000000) + P * 1000000000 * (N / 1000000000) = (tx + P * x) + (ty + P * y) := by
  have e : N % 1000000000 + 1000000000 * (N / 1000000000) = N := by omega
  have e2 : P * (N % 1000000000) + P * 1000000000 * (N / 1000000000) = P * N := by rw [Int.mul_assoc, ← Int.mul_add, e]
  rw [Int.add_assoc, e2, hN, Int.mul_add, Int.mul_add]
  omega
theorem val_take_step (l : List Int) (k : Nat) : val (l.take (k + 1)) = val (l.take k) + 1000000000 ^ k * l.getD k 0 := by
  by_cases h : k < l.length
  · rw [List.take_succ_eq_append_getElem h, val_append, List.length_take, Nat.min_eq_left (by omega), List.getD, List.getElem?_eq_getElem h]
    simp [val]
  · rw [List.take_of_length_le (by omega), List.take_of_length_le (by omega), List.getD, List.getElem?_eq_none (by omega)]
    simp
theorem val_snoc (l : List Int) (d : Int) : val (l ++ [d]) = val l + 1000000000 ^ l.length * d := by rw [val_append]; simp [val]
/-- the sum so far, with the carry behind it -/
def Sum (xs ys acc : List Int) (k : Nat) (q : Int) : Prop := acc.length = k ∧ Limbs acc ∧ val acc + 1000000000 ^ k * q = val (xs.take k) + val (ys.take k)
theorem Sum.next {xs ys acc : List Int} {k : Nat} {q x y N : Int} (h : Sum xs ys acc k q) (hx : xs.getD k 0 = x) (hy : ys.getD k 0 = y) (hN : N = q + x + y) (h0 : 0 ≤ N) : Sum xs ys (acc ++ [N % 1000000000]) (k + 1) (N / 1000000000) := by
  obtain ⟨h1, h2, h3⟩ := h
  refine ⟨by rw [List.length_append, h1]; rfl, h2.append (Limbs.mk (by omega) Limbs.nil), ?_⟩
  have := add_step (P := 1000000000 ^ k) h3 hN
  rw [val_snoc, h1, val_take_step, val_take_step, hx, hy, Int.pow_succ]
  exact this
/-- the difference so far, with what was borrowed -/
def Dif (xs ys acc : List Int) (k : Nat) (q : Int) : Prop := acc.length = k ∧ Limbs acc ∧ val acc - 1000000000 ^ k * q = val (xs.take k) - val (ys.take k)
theorem sub_step {P va q x y tx ty d q' : Int} (h : va - P * q = tx - ty) (hd : d = x - q - y + 1000000000 * q') : va + P * d - P * 1000000000 * q' = (tx + P * x) - (ty + P * y) := by
  have e : P * d - P * 1000000000 * q' = P * (x - q - y) := by rw [hd, Int.mul_add, Int.mul_assoc]; omega
  have e2 : P * (x - q - y) = P * x - P * q - P * y := by rw [Int.mul_sub, Int.mul_sub]
  omega
theorem Dif.next {xs ys acc : List Int} {k : Nat} {q x y d q' : Int} (h : Dif xs ys acc k q) (hx : xs.getD k 0 = x) (hy : ys.getD k 0 = y) (hd : d = x - q - y + 1000000000 * q') (h0 : 0 ≤ d) (h1 : d ≤ 999999999) : Dif xs ys (acc ++ [d]) (k + 1) q' := by
  obtain ⟨g1, g2, g3⟩ := h
  refine ⟨by rw [List.length_append, g1]; rfl, g2.append (Limbs.mk ⟨h0, h1⟩ Limbs.nil), ?_⟩
  have := sub_step (P := 1000000000 ^ k) g3 hd
  rw [val_snoc, g1, val_take_step, val_take_step, hx, hy, Int.pow_succ]
  exact this
theorem Dif.done {xs ys acc : List Int} {q : Int} (h : Dif xs ys acc xs.length q) (hm : ys.length ≤ xs.length) (hq : q = 0 ∨ q = 1) (hle : val ys ≤ val xs) : val acc = val xs - val ys := by
  obtain ⟨g1, g2, g3⟩ := h
  rw [List.take_of_length_le (Nat.le_refl _), List.take_of_length_le hm] at g3
  have hv := val_lt g2
  rw [g1] at hv
  rcases hq with rfl | rfl
  · simp at g3; omega
  · simp at g3; omega
theorem val_set : ∀ (l : List Int) (p : Nat) (d : Int), p < l.length → val (l.set p d) = val l + 1000000000 ^ p * (d - l.getD p 0)
  | [], p, d, h => absurd h (Nat.not_lt_zero _)
  | x :: r, 0, d, _ => by simp [val, List.getD]; omega
  | x :: r, p + 1, d, h => by
    have ih := val_set r p d (by simpa using h)
    rw [List.set_cons_succ, val, ih, val, List.getD_cons_succ, Int.mul_add, Int.pow_succ, Int.mul_comm (1000000000 ^ p) 1000000000, Int.mul_assoc]
    omega
theorem Limbs.set {l : List Int} (h : Limbs l) (p : Nat) {d : Int} (hd : 0 ≤ d ∧ d ≤ 999999999) : Limbs (l.set p d) := fun x hx => by
  rcases List.mem_or_eq_of_mem_set hx with h' | rfl
  · exact h x h'
  · exact hd
theorem getD_set_ne {l : List Int} {p p' : Nat} {d : Int} (h : p ≠ p') : (l.set p d).getD p' 0 = l.getD p' 0 := by
  simp [List.getD, List.getElem?_set_ne h]
/-- the product of the first k limbs of xs with ys -/
def Prd (xs ys zs : List Int) (k : Nat) : Prop := zs.length = xs.length + ys.length ∧ Limbs zs ∧ (∀ p, k + ys.length ≤ p → zs.getD p 0 = 0) ∧ val zs = val (xs.take k) * val ys
/-- .. and of limb k with the first j limbs of ys, the carry q behind it -/
def Prt (xs ys zs : List Int) (k j : Nat) (x q : Int) : Prop := zs.length = xs.length + ys.length ∧ Limbs zs ∧ (∀ p, k + ys.length ≤ p → zs.getD p 0 = 0) ∧ val zs + 1000000000 ^ (k + j) * q = val (xs.take k) * val ys + 1000000000 ^ k * (x * val (ys.take j))
theorem mul_step {P V q o x y N R : Int} (h : V + P * q = R) (hN : N = o + x * y + q) : V + P * (N % 1000000000 - o) + P * 1000000000 * (N / 1000000000) = R + P * (x * y) := by
  have e : N % 1000000000 + 1000000000 * (N / 1000000000) = N := by omega
  have e2 : P * (N % 1000000000 - o) + P * 1000000000 * (N / 1000000000) = P * (N - o) := by
    rw [Int.mul_assoc, ← Int.mul_add]; congr 1; omega
  rw [Int.add_assoc, e2, show N - o = x * y + q by omega, Int.mul_add]
  omega
theorem Prt.next {xs ys zs : List Int} {k j : Nat} {x q y o N : Int} (h : Prt xs ys zs k j x q) (hj : j < ys.length) (hk : k < xs.length) (hy : ys.getD j 0 = y) (ho : zs.getD (k + j) 0 = o) (hN : N = o + x * y + q) (h0 : 0 ≤ N) :
    Prt xs ys (zs.set (k + j) (N % 1000000000)) k (j + 1) x (N / 1000000000) := by
  obtain ⟨g1, g2, g3, g4⟩ := h
  refine ⟨by rw [List.length_set]; exact g1, g2.set _ (by omega), fun p hp => by rw [getD_set_ne (by omega)]; exact g3 p hp, ?_⟩
  have := mul_step (P := 1000000000 ^ (k + j)) g4 hN
  rw [val_set _ _ _ (by omega), ho, val_take_step, hy, ← Nat.add_assoc, Int.pow_succ, this, Int.mul_add, Int.mul_add, Int.add_assoc]
  congr 2
  rw [Int.pow_add, Int.mul_assoc]
  congr 1
  rw [← Int.mul_assoc, Int.mul_comm (1000000000 ^ j) x, Int.mul_assoc]
theorem Prt.done {xs ys zs : List Int} {k : Nat} {x q : Int} (h : Prt xs ys zs k ys.length x q) (hk : k < xs.length) (hx : xs.getD k 0 = x) (hq : 0 ≤ q ∧ q ≤ 999999999) : Prd xs ys (zs.set (k + ys.length) q) (k + 1) := by
  obtain ⟨g1, g2, g3, g4⟩ := h
  have hz := g3 (k + ys.length) (Nat.le_refl _)
  refine ⟨by rw [List.length_set]; exact g1, g2.set _ hq, fun p hp => by rw [getD_set_ne (by omega)]; exact g3 p (by omega), ?_⟩
  rw [val_set _ _ _ (by omega), hz, Int.sub_zero, g4, List.take_of_length_le (Nat.le_refl _), val_take_step, hx, Int.add_mul, Int.mul_assoc]
theorem val_drop {l : List Int} {j : Nat} (h : j < l.length) : val (l.drop j) = l[j] + 1000000000 * val (l.drop (j + 1)) := by
  rw [List.drop_eq_getElem_cons h, val]
/-- two lists of the call's own, in stretches apart -/
def Two (w w' : World) (E : TypeId) (v1 : Value) (xs : List Int) (v2 : Value) (ys : List Int) : Prop :=
  ∃ l1 h1 l2 h2, Own w' l1 h1 E v1 xs.length (iv xs) ∧ Own w' l2 h2 E v2 ys.length (iv ys) ∧ w.heap.size ≤ l1 ∧ w.heap.size ≤ l2 ∧ h1 ≤ w'.heap.size ∧ h2 ≤ w'.heap.size ∧ (h1 ≤ l2 ∨ h2 ≤ l1)
end Go.Proofs.Ytdcceppednngjaa

/-
  Structs in blocks: what a block holds, kept; results that are structs.
-/


namespace Go.Proofs.Ytdcceppednngjaa
open Go.RowKit
set_option linter.unusedVariables false

theorem heap_last {w : World} {o : Obj} {k : Nat} (hk : k = w.heap.size) : (w.alloc o).heap[k]? = some o := by
  subst hk; show (w.heap.push o)[w.heap.size]? = _; rw [Array.getElem?_push_size]
theorem heap_old {w : World} {o x : Obj} {k : Nat} (h : w.heap[k]? = some x) : (w.alloc o).heap[k]? = some x := by
  have hk : k < w.heap.size := (Array.getElem?_eq_some_iff.1 h).1
  show (w.heap.push o)[k]? = _
  rw [Array.getElem?_push]
  rw [if_neg (by omega)]; exact h
theorem alloc_size (w : World) (o : Obj) : (w.alloc o).heap.size = w.heap.size + 1 := by show (w.heap.push o).size = _; rw [Array.size_push]
/-- block g holds the values cs, and nothing besides -/
def Box (w : World) (g : Nat) (E : TypeId) (cs : Array Value) : Prop := w.heap[g]? = some (.cells cs E (0, 0))
section
variable {w w' : World} {g : Nat} {E : TypeId} {cs : Array Value} {B : Nat}
theorem Box.lt (h : Box w g E cs) : g < w.heap.size := (Array.getElem?_eq_some_iff.1 h).1
theorem Box.cell (h : Box w g E cs) (i : Nat) : w.cell? ⟨g, i, none⟩ = cs[i]? := Joins.cell_of_block h i
theorem Box.below (h : Box w g E cs) (hb : Below B w w') (hd : g < B) : Box w' g E cs := by show w'.heap[g]? = _; rw [hb.block g hd]; exact h
theorem Box.set (h : Box w g E cs) (i : Nat) (v : Value) : Box (w.setCell ⟨g, i, none⟩ v) g E (cs.setIfInBounds i v) := Joins.block_setCell h v
theorem Box.alloc (h : Box w g E cs) (o : Obj) : Box (w.alloc o) g E cs := heap_old h
end
theorem Box.last (w : World) (E : TypeId) (cs : Array Value) {k : Nat} (hk : k = w.heap.size) : Box (w.alloc (.cells cs E)) k E cs := heap_last hk
theorem Box.drew {w : World} {g : Nat} {E : TypeId} {cs : Array Value} (h : Box w g E cs) : Box w.drew g E cs := h
theorem below_alloc {w W : World} (h : Below w.heap.size w W) (o : Obj) : Below w.heap.size w (W.alloc o) := h.alloc h.size o
theorem below_then {w W W' : World} (h : Below w.heap.size w W) (k : Below W.heap.size W W') : Below w.heap.size w W' := h.trans (k.mono h.size)
theorem below_new (w : World) (o : Obj) : Below w.heap.size w (w.alloc o) := below_alloc (Below.refl _ _) o
theorem setCell_size (w : World) (a : Addr) (u : Value) : (w.setCell a u).heap.size = w.heap.size := by unfold World.setCell; split <;> simp
theorem Box.aside {w w' : World} {g : Nat} {E : TypeId} {cs : Array Value} {lo hi : Nat} (h : Box w g E cs) (ha : Aside lo hi w w') (hd : g < lo ∨ hi ≤ g) : Box w' g E cs := by
  show w'.heap[g]? = _
  rw [ha.block g h.lt hd]; exact h
end Go.Proofs.Ytdcceppednngjaa

/-
  Fractions: the reduced fraction of a numerator and a denominator, and what each function answers.
-/

namespace Go.Proofs.Ytdcceppednngjaa
open Go.RowKit
set_option linter.unusedVariables false

def noR : (Bool × List Int) × List Int := ((false, []), [])
/-! ### numbers and their lists -/
end Go.Proofs.Ytdcceppednngjaa

/-
  Structs of three cells in blocks; results that are such structs, with two lists of the call's own.
-/


namespace Go.Proofs.Ytdcceppednngjaa
open Go.RowKit
set_option linter.unusedVariables false

section
variable {w w' : World} {g : Nat} {E : TypeId} {a b c : Value}
theorem Box.cells2 (h : Box w g E #[a, b]) : w.cell? ⟨g, 0, none⟩ = some a ∧ w.cell? ⟨g, 1, none⟩ = some b :=
  ⟨h.cell 0, h.cell 1⟩
end
/-- two lists of the call's own, in stretches apart, all from block B on -/
def Pair (w' : World) (B : Nat) (E : TypeId) (v1 : Value) (xs : List Int) (v2 : Value) (ys : List Int) : Prop :=
  ∃ l1 h1 l2 h2, Own w' l1 h1 E v1 xs.length (iv xs) ∧ Own w' l2 h2 E v2 ys.length (iv ys) ∧ B ≤ l1 ∧ B ≤ l2 ∧ h1 ≤ w'.heap.size ∧ h2 ≤ w'.heap.size ∧ (h1 ≤ l2 ∨ h2 ≤ l1)
section
variable {w w' : World} {B B' g : Nat} {E : TypeId} {v1 v2 : Value} {xs ys : List Int}
theorem Pair.nil (w : World) (E : TypeId) (hB : B ≤ w.heap.size) : Pair w B E (.slice none 0 0) [] (.slice none 0 0) [] :=
  ⟨w.heap.size, w.heap.size, w.heap.size, w.heap.size, Own.nil _ _ _ _, Own.nil _ _ _ _, hB, hB, Nat.le_refl _, Nat.le_refl _, .inl (Nat.le_refl _)⟩
theorem Pair.below (h : Pair w B E v1 xs v2 ys) (hb : Below w.heap.size w w') : Pair w' B E v1 xs v2 ys := by
  obtain ⟨l1, h1, l2, h2, o1, o2, a, b, c, d, e⟩ := h
  have hs := hb.size
  exact ⟨l1, h1, l2, h2, o1.below hb c, o2.below hb d, a, b, by omega, by omega, e⟩
theorem Pair.lower (h : Pair w B E v1 xs v2 ys) (hB : B' ≤ B) : Pair w B' E v1 xs v2 ys := by
  obtain ⟨l1, h1, l2, h2, o1, o2, a, b, r⟩ := h
  exact ⟨l1, h1, l2, h2, o1, o2, by omega, by omega, r⟩
theorem Pair.form (h : Pair w B E v1 xs v2 ys) : ∃ A1 c1 A2 c2, v1 = .slice A1 xs.length c1 ∧ v2 = .slice A2 ys.length c2 := by
  obtain ⟨l1, h1, l2, h2, o1, o2, _⟩ := h
  obtain ⟨A1, c1, e1⟩ := o1.form
  obtain ⟨A2, c2, e2⟩ := o2.form
  exact ⟨A1, c1, A2, c2, e1, e2⟩
theorem Pair.rd {A1 A2 : Option Addr} {c1 c2 n1 n2 : Nat} (h : Pair w B E (.slice A1 n1 c1) xs (.slice A2 n2 c2) ys) : Rd w w.heap.size A1 (iv xs) ∧ Rd w w.heap.size A2 (iv ys) := by
  obtain ⟨l1, h1, l2, h2, o1, o2, _⟩ := h
  have e1 : n1 = xs.length := by obtain ⟨_, _, e⟩ := o1.form; injection e
  have e2 : n2 = ys.length := by obtain ⟨_, _, e⟩ := o2.form; injection e
  subst e1; subst e2
  exact ⟨o1.rd, o2.rd⟩
theorem Pair.of (o1 : Own w B B' E v1 xs.length (iv xs)) (o2 : Own w' w.heap.size w'.heap.size E v2 ys.length (iv ys)) (hb : Below w.heap.size w w') (hB : B' ≤ w.heap.size) (hs : B ≤ w.heap.size) : Pair w' B E v1 xs v2 ys := by
  have := hb.size
  exact ⟨B, B', w.heap.size, w'.heap.size, o1.below hb hB, o2, Nat.le_refl _, hs, by omega, Nat.le_refl _, .inl hB⟩
end
/-- a fraction handed back: its sign, its two lists, in memory of the call's own -/
def RatRes (TI : TypeId) (w w' : World) (e : Ending) (Z : (Bool × List Int) × List Int) : Prop :=
  ∃ v d, e = .returned (.agg #[.bool Z.1.1, v, d]) ∧ Pair w' w.heap.size TI v Z.1.2 d Z.2 ∧ Below w.heap.size w w'
end Go.Proofs.Ytdcceppednngjaa

/-
  Long division, as mathematics. Of no program.
-/

namespace Go.Proofs.Ytdcceppednngjaa
open Go.RowKit
set_option linter.unusedVariables false

/-- the quotient's limbs so far (those from place k on), and the remainder behind them -/
structure DivS (xs done : List Int) (d r : Int) (k : Nat) : Prop where
  len : done.length = xs.length - k
  ok : Limbs done
  v : val (xs.drop k) = d * val done + r
  r0 : 0 ≤ r
  r1 : r < d
theorem DivS.small {xs done : List Int} {d r : Int} {j : Nat} (h : DivS xs done d r (j + 1)) (hx : Limbs xs) (hj : j < xs.length) : 0 ≤ r * 1000000000 + xs[j] ∧ r * 1000000000 + xs[j] < d * 1000000000 := by
  have := hx xs[j] (List.getElem_mem _)
  have h0 := h.r0
  have h1 := h.r1
  omega
theorem DivS.next {xs done : List Int} {d r q r' : Int} {j : Nat} (h : DivS xs done d r (j + 1)) (hx : Limbs xs) (hj : j < xs.length) (hq : r * 1000000000 + xs[j] = d * q + r') (h0 : 0 ≤ r') (h1 : r' < d) : DivS xs (q :: done) d r' j := by
  obtain ⟨s0, s1⟩ := h.small hx hj
  have hd : 0 < d := by omega
  have hv := val_drop hj
  refine ⟨by rw [List.length_cons, h.len]; omega, Limbs.mk ⟨?_, ?_⟩ h.ok, ?_, h0, h1⟩
  · rcases Int.lt_or_le q 0 with hn | hn
    · have := Int.mul_le_mul_of_nonneg_left (show q ≤ -1 by omega) (Int.le_of_lt hd)
      omega
    · exact hn
  · rcases Int.lt_or_le 999999999 q with hn | hn
    · have := Int.mul_le_mul_of_nonneg_left (show 1000000000 ≤ q by omega) (Int.le_of_lt hd)
      omega
    · exact hn
  · have e : d * (1000000000 * val done) = 1000000000 * (d * val done) := by rw [Int.mul_left_comm]
    rw [hv, h.v, val, Int.mul_add d q, e]
    omega
theorem DivS.done {xs done : List Int} {d r : Int} (h : DivS xs done d r 0) : val done = val xs / d ∧ r = val xs % d := by
  have hv := h.v
  rw [List.drop_zero] at hv
  have h0 := h.r0
  have h1 := h.r1
  have hd : d ≠ 0 := by omega
  constructor
  · rw [hv, Int.add_comm, Int.add_mul_ediv_left _ _ hd, Int.ediv_eq_zero_of_lt h0 h1]; omega
  · rw [hv, Int.add_comm, Int.add_mul_emod_self_left, Int.emod_eq_of_lt h0 h1]
theorem DivS.q {xs done : List Int} {d r q r' : Int} {j : Nat} (h : DivS xs done d r (j + 1)) (hx : Limbs xs) (hj : j < xs.length) (hq : r * 1000000000 + xs[j] = d * q + r') (h0 : 0 ≤ r') (h1 : r' < d) : 0 ≤ q ∧ q ≤ 999999999 := (h.next hx hj hq h0 h1).ok.cons.1
end Go.Proofs.Ytdcceppednngjaa

/-
  append of a list to an empty slice of the call's own, as a step of a region that draws its order: where the result lies, and that nothing else has turned.
-/




namespace Go.Proofs.Ytdcceppednngjaa
open Go.RowKit
set_option linter.unusedVariables false

/-- two lists of the call's own, from block B on -/
def Both (w' : World) (B : Nat) (E : TypeId) (v1 : Value) (xs : List Int) (v2 : Value) (ys : List Int) : Prop :=
  Own w' B w'.heap.size E v1 xs.length (iv xs) ∧ Own w' B w'.heap.size E v2 ys.length (iv ys)
end Go.Proofs.Ytdcceppednngjaa

/-
  Lehmer's way to the greatest common divisor, as mathematics. Of no program.
-/

namespace Go.Proofs.Ytdcceppednngjaa
open Go.RowKit
set_option linter.unusedVariables false

/-- signs and determinant: they alternate -/
def Sg (a1 b1 a2 b2 : Int) : Prop := (0 ≤ a1 ∧ b1 ≤ 0 ∧ a2 ≤ 0 ∧ 0 ≤ b2 ∧ a1 * b2 - a2 * b1 = 1) ∨ (a1 ≤ 0 ∧ 0 ≤ b1 ∧ 0 ≤ a2 ∧ b2 ≤ 0 ∧ a1 * b2 - a2 * b1 = -1)
/-- at least one step is done -/
structure Going (x y a1 b1 a2 b2 : Int) : Prop where
  a0 : 0 ≤ y + a2
  a1' : y + a2 < x + a1
  b0 : 0 ≤ y + b2
  b1' : y + b2 < x + b1
  n1 : b1 ≠ 0
  n2 : b2 ≠ 0
structure Cof (X Y x y a1 b1 a2 b2 : Int) : Prop where
  ex : x = a1 * X + b1 * Y
  ey : y = a2 * X + b2 * Y
  sg : Sg a1 b1 a2 b2
  st : (x = X ∧ y = Y ∧ a1 = 1 ∧ b1 = 0 ∧ a2 = 0 ∧ b2 = 1) ∨ (Going x y a1 b1 a2 b2 ∧ ∀ K α β : Int, 0 ≤ α → α < K → 0 ≤ β → β < K → a1 * (X * K + α) + b1 * (Y * K + β) ≤ Y * K + β)
  c1 : -1000000000 ≤ a1 ∧ a1 ≤ 1000000000 ∧ -1000000000 ≤ b1 ∧ b1 ≤ 1000000000
theorem sq_bound {u v : Int} (h0 : 0 ≤ u) (h1 : u ≤ v) (h2 : u * v < 1000000000000000000) : u ≤ 1000000000 := by
  rcases Int.lt_or_le 1000000000 u with h | h
  · have a := Int.mul_le_mul_of_nonneg_right (show 1000000000 ≤ u by omega) (show 0 ≤ v by omega)
    omega
  · exact h
theorem Going.signs {x y a1 b1 a2 b2 : Int} (h : Going x y a1 b1 a2 b2) (s : Sg a1 b1 a2 b2) : 0 ≤ y ∧ y < x := by
  obtain ⟨h1, h2, h3, h4, _, _⟩ := h
  rcases s with ⟨s1, s2, s3, s4, _⟩ | ⟨s1, s2, s3, s4, _⟩ <;> omega
/-- the two numbers, told by the later ones -/
theorem Cof.back {X Y x y a1 b1 a2 b2 : Int} (h : Cof X Y x y a1 b1 a2 b2) : b2 * x - b1 * y = (a1 * b2 - a2 * b1) * X ∧ a1 * y - a2 * x = (a1 * b2 - a2 * b1) * Y := by
  rw [h.ex, h.ey]
  constructor
  · rw [Int.sub_mul, Int.mul_add, Int.mul_add, Int.mul_comm a1 b2, Int.mul_comm a2 b1, Int.mul_assoc, Int.mul_assoc, ← Int.mul_assoc b2 b1, ← Int.mul_assoc b1 b2, Int.mul_comm b1 b2]
    omega
  · rw [Int.sub_mul, Int.mul_add, Int.mul_add, ← Int.mul_assoc a1 a2, ← Int.mul_assoc a2 a1, Int.mul_comm a2 a1, ← Int.mul_assoc, ← Int.mul_assoc]
    omega
theorem Cof.c2 {X Y x y a1 b1 a2 b2 : Int} (h : Cof X Y x y a1 b1 a2 b2) (hX : X < 1000000000000000000) (hY : Y ≤ X) : -1000000000 ≤ a2 ∧ a2 ≤ 1000000000 ∧ -1000000000 ≤ b2 ∧ b2 ≤ 1000000000 := by
  rcases h.st with ⟨_, _, _, _, e3, e4⟩ | ⟨g, _⟩
  · omega
  · obtain ⟨k1, k2⟩ := h.back
    obtain ⟨y0, yx⟩ := g.signs h.sg
    obtain ⟨h1, h2, h3, h4, _, _⟩ := g
    rcases h.sg with ⟨s1, s2, s3, s4, dt⟩ | ⟨s1, s2, s3, s4, dt⟩
    · rw [dt, Int.one_mul] at k1 k2
      have p1 : b1 * y ≤ 0 := Int.mul_nonpos_of_nonpos_of_nonneg s2 y0
      have p2 : 0 ≤ a1 * y := Int.mul_nonneg s1 y0
      have q1 : b2 ≤ 1000000000 := sq_bound (v := x) s4 (by omega) (by omega)
      have e : -a2 * x = -(a2 * x) := Int.neg_mul ..
      have q2 : -a2 ≤ 1000000000 := sq_bound (v := x) (by omega) (by omega) (by omega)
      omega
    · rw [dt, Int.neg_mul, Int.one_mul] at k1 k2
      have p1 : 0 ≤ b1 * y := Int.mul_nonneg s2 y0
      have p2 : a1 * y ≤ 0 := Int.mul_nonpos_of_nonpos_of_nonneg s1 y0
      have e : -b2 * x = -(b2 * x) := Int.neg_mul ..
      have q1 : -b2 ≤ 1000000000 := sq_bound (v := x) (by omega) (by omega) (by omega)
      have q2 : a2 ≤ 1000000000 := sq_bound (v := x) s3 (by omega) (by omega)
      omega
/-- what the later numbers are behind the leading limbs -/
theorem Going.behind {x y a1 b1 a2 b2 K α β : Int} (g : Going x y a1 b1 a2 b2) (s : Sg a1 b1 a2 b2) (h0 : 0 ≤ α) (h1 : α < K) (h2 : 0 ≤ β) (h3 : β < K) : 0 ≤ y * K + a2 * α + b2 * β ∧ y * K + a2 * α + b2 * β < x * K + a1 * α + b1 * β := by
  obtain ⟨g1, g2, g3, g4, _, _⟩ := g
  have hK : 0 < K := by omega
  rcases s with ⟨s1, s2, s3, s4, _⟩ | ⟨s1, s2, s3, s4, _⟩
  · constructor
    · have p1 : a2 * K ≤ a2 * α := Int.mul_le_mul_of_nonpos_left s3 (by omega)
      have p2 : 0 ≤ b2 * β := Int.mul_nonneg s4 h2
      have p3 : 0 ≤ (y + a2) * K := Int.mul_nonneg g1 (by omega)
      rw [Int.add_mul] at p3
      omega
    · have p1 : (b1 - b2) * K ≤ (b1 - b2) * β := Int.mul_le_mul_of_nonpos_left (by omega) (by omega)
      have p2 : 0 ≤ (a1 - a2) * α := Int.mul_nonneg (by omega) h0
      have p3 : 0 < (x - y + (b1 - b2)) * K := Int.mul_pos (by omega) hK
      rw [Int.add_mul, Int.sub_mul x y] at p3
      rw [Int.sub_mul b1 b2 β] at p1
      rw [Int.sub_mul] at p2
      omega
  · constructor
    · have p1 : b2 * K ≤ b2 * β := Int.mul_le_mul_of_nonpos_left s4 (by omega)
      have p2 : 0 ≤ a2 * α := Int.mul_nonneg s3 h0
      have p3 : 0 ≤ (y + b2) * K := Int.mul_nonneg g3 (by omega)
      rw [Int.add_mul] at p3
      omega
    · have p1 : (a1 - a2) * K ≤ (a1 - a2) * α := Int.mul_le_mul_of_nonpos_left (by omega) (by omega)
      have p2 : 0 ≤ (b1 - b2) * β := Int.mul_nonneg (by omega) h2
      have p3 : 0 < (x - y + (a1 - a2)) * K := Int.mul_pos (by omega) hK
      rw [Int.add_mul, Int.sub_mul x y] at p3
      rw [Int.sub_mul a1 a2 α] at p1
      rw [Int.sub_mul] at p2
      omega
end Go.Proofs.Ytdcceppednngjaa
