/-
  The texts NatM, BigM, BigP, BigF, RatP, RatQ, RatM, DivP, AppL, GcdP, put together; each has its own heading below. No condition of ours.
-/
import Derived.Test.YtdcceppednngjabOwn
import Derived.Test.YtdcceppednngjabPA
import Derived.Laws.AppendOwnNone
import Derived.Lib.SmallJoins
import Derived.Deep.AppendLies
import Derived.Deep.RegionLaw
import Derived.Deep.RegionHeldLaw
/-
  Small words for naturals and for lists of the call's own: what no function is named in.
-/




namespace Go.Proofs.Ytdcceppednngjab
open Go.RowKit
set_option linter.unusedVariables false

theorem natB_bad {l : List Int} {k : Nat} (hk : k < l.length) (h : ¬ (0 ≤ l[k] ∧ l[k] ≤ 999999999)) : natB l = false := by
  rw [Bool.eq_false_iff]
  intro hb
  exact h (((natB_iff l).1 hb).1.1 _ (List.getElem_mem hk))
theorem natB_long {l : List Int} (h : 60 < l.length) : natB l = false := by
  rw [Bool.eq_false_iff]
  intro hb
  have := ((natB_iff l).1 hb).2
  omega
theorem natB_last {l : List Int} (h0 : 0 < l.length) (h60 : l.length ≤ 60) (hl : Limbs l) : natB l = (l[l.length - 1] != 0) := by
  have hg : l.getLast? = some l[l.length - 1] := by rw [List.getLast?_eq_getElem?, List.getElem?_eq_getElem (by omega)]
  by_cases hz : l[l.length - 1] = 0
  · have : natB l = false := by
      rw [Bool.eq_false_iff]
      intro hb
      exact ((natB_iff l).1 hb).1.2 _ hg hz
    rw [this]; simp [hz]
  · have : natB l = true := (natB_iff l).2 ⟨⟨hl, fun d hd => by rw [hg] at hd; injection hd with hd; omega⟩, h60⟩
    rw [this]; simp [hz]
/-! ### l02Trim -/
theorem trim_take_step {l : List Int} {k : Nat} (hk : k < l.length) (h : l[k] = 0) : trim (l.take (k + 1)) = trim (l.take k) := by
  rw [List.take_succ_eq_append_getElem hk, h, trim_snoc_zero]
theorem trim_take_end {l : List Int} {k : Nat} (hk : k < l.length) (h : l[k] ≠ 0) : trim (l.take (k + 1)) = l.take (k + 1) := by
  rw [List.take_succ_eq_append_getElem hk, trim_snoc h]
/-! ### l02Cap -/
theorem split_at {l : List Int} {j : Nat} (h : j < l.length) : l = l.take j ++ l[j] :: l.drop (j + 1) := by
  rw [← List.drop_eq_getElem_cons h, List.take_append_drop]
theorem cmp_at {xs ys : List Int} {j : Nat} (hx : Limbs xs) (hy : Limbs ys) (h : j < xs.length) (h' : j < ys.length) (hd : xs.drop (j + 1) = ys.drop (j + 1)) (hlt : xs[j] < ys[j]) : val xs < val ys := by
  have e1 := split_at h
  have e2 := split_at h'
  rw [e1, e2, hd]
  exact val_lt_top (hx.take j) (hy.take j) (by rw [List.length_take, List.length_take]; omega) hlt
theorem add_step {P va q x y tx ty N : Int} (h : va + P * q = tx + ty) (hN : N = q + x + y) : va + P * (N % 1000000000) + P * 1000000000 * (N / 1000000000) = (tx + P * x) + (ty + P * y) := by
  have e : N % 1000000000 + 1000000000 * (N / 1000000000) = N := by omega
  have e2 : P * (N % 1000000000) + P * 1000000000 * (N / 1000000000) = P * N := by rw [Int.mul_assoc, ← Int.mul_add, e]
  rw [Int.add_assoc, e2, hN, Int.mul_add, Int.mul_add]
  omega
theorem val_take_step (l : List Int) (k : Nat) : val (l.take (k + 1)) = val (l.take k) + 1000000000 ^ k * l.getD k 0 := by
  by_cases h : k < l.length
  · rw [List.take_succ_eq_append_getElem h, val_append, List.length_take, Nat.min_eq_left (by omega), List.getD, List.getElem?_eq_getElem h]
    simp [val]
  · rw [List.take_of_length_le (by omega), List.take_of_length_le (by omega), List.getD, List.getElem?_eq_none (by omega)]
    simp
theorem val_snoc (l : List Int) (d : Int) : val (l ++ [d]) = val l + 1000000000 ^ l.length * d := by rw [val_append]; simp [val]
/-- the sum so far, with the carry behind it -/
def Sum (xs ys acc : List Int) (k : Nat) (q : Int) : Prop := acc.length = k ∧ Limbs acc ∧ val acc + 1000000000 ^ k * q = val (xs.take k) + val (ys.take k)
theorem Sum.next {xs ys acc : List Int} {k : Nat} {q x y N : Int} (h : Sum xs ys acc k q) (hx : xs.getD k 0 = x) (hy : ys.getD k 0 = y) (hN : N = q + x + y) (h0 : 0 ≤ N) : Sum xs ys (acc ++ [N % 1000000000]) (k + 1) (N / 1000000000) := by
  obtain ⟨h1, h2, h3⟩ := h
  refine ⟨by rw [List.length_append, h1]; rfl, h2.append (Limbs.mk (by omega) Limbs.nil), ?_⟩
  have := add_step (P := 1000000000 ^ k) h3 hN
  rw [val_snoc, h1, val_take_step, val_take_step, hx, hy, Int.pow_succ]
  exact this
theorem getD_in {l : List Int} {k : Nat} (h : k < l.length) : l.getD k 0 = l[k] := by rw [List.getD, List.getElem?_eq_getElem h]; rfl
theorem getD_out {l : List Int} {k : Nat} (h : l.length ≤ k) : l.getD k 0 = 0 := by rw [List.getD, List.getElem?_eq_none h]; rfl
/-- the difference so far, with what was borrowed -/
def Dif (xs ys acc : List Int) (k : Nat) (q : Int) : Prop := acc.length = k ∧ Limbs acc ∧ val acc - 1000000000 ^ k * q = val (xs.take k) - val (ys.take k)
theorem sub_step {P va q x y tx ty d q' : Int} (h : va - P * q = tx - ty) (hd : d = x - q - y + 1000000000 * q') : va + P * d - P * 1000000000 * q' = (tx + P * x) - (ty + P * y) := by
  have e : P * d - P * 1000000000 * q' = P * (x - q - y) := by rw [hd, Int.mul_add, Int.mul_assoc]; omega
  have e2 : P * (x - q - y) = P * x - P * q - P * y := by rw [Int.mul_sub, Int.mul_sub]
  omega
theorem Dif.next {xs ys acc : List Int} {k : Nat} {q x y d q' : Int} (h : Dif xs ys acc k q) (hx : xs.getD k 0 = x) (hy : ys.getD k 0 = y) (hd : d = x - q - y + 1000000000 * q') (h0 : 0 ≤ d) (h1 : d ≤ 999999999) : Dif xs ys (acc ++ [d]) (k + 1) q' := by
  obtain ⟨g1, g2, g3⟩ := h
  refine ⟨by rw [List.length_append, g1]; rfl, g2.append (Limbs.mk ⟨h0, h1⟩ Limbs.nil), ?_⟩
  have := sub_step (P := 1000000000 ^ k) g3 hd
  rw [val_snoc, g1, val_take_step, val_take_step, hx, hy, Int.pow_succ]
  exact this
theorem Dif.done {xs ys acc : List Int} {q : Int} (h : Dif xs ys acc xs.length q) (hm : ys.length ≤ xs.length) (hq : q = 0 ∨ q = 1) (hle : val ys ≤ val xs) : val acc = val xs - val ys := by
  obtain ⟨g1, g2, g3⟩ := h
  rw [List.take_of_length_le (Nat.le_refl _), List.take_of_length_le hm] at g3
  have hv := val_lt g2
  rw [g1] at hv
  rcases hq with rfl | rfl
  · simp at g3; omega
  · simp at g3; omega
theorem val_set : ∀ (l : List Int) (p : Nat) (d : Int), p < l.length → val (l.set p d) = val l + 1000000000 ^ p * (d - l.getD p 0)
  | [], p, d, h => absurd h (Nat.not_lt_zero _)
  | x :: r, 0, d, _ => by simp [val, List.getD]; omega
  | x :: r, p + 1, d, h => by
    have ih := val_set r p d (by simpa using h)
    rw [List.set_cons_succ, val, ih, val, List.getD_cons_succ, Int.mul_add, Int.pow_succ, Int.mul_comm (1000000000 ^ p) 1000000000, Int.mul_assoc]
    omega
theorem Limbs.set {l : List Int} (h : Limbs l) (p : Nat) {d : Int} (hd : 0 ≤ d ∧ d ≤ 999999999) : Limbs (l.set p d) := fun x hx => by
  rcases List.mem_or_eq_of_mem_set hx with h' | rfl
  · exact h x h'
  · exact hd
theorem getD_set_ne {l : List Int} {p p' : Nat} {d : Int} (h : p ≠ p') : (l.set p d).getD p' 0 = l.getD p' 0 := by
  simp [List.getD, List.getElem?_set_ne h]
/-- the product of the first k limbs of xs with ys -/
def Prd (xs ys zs : List Int) (k : Nat) : Prop := zs.length = xs.length + ys.length ∧ Limbs zs ∧ (∀ p, k + ys.length ≤ p → zs.getD p 0 = 0) ∧ val zs = val (xs.take k) * val ys
/-- .. and of limb k with the first j limbs of ys, the carry q behind it -/
def Prt (xs ys zs : List Int) (k j : Nat) (x q : Int) : Prop := zs.length = xs.length + ys.length ∧ Limbs zs ∧ (∀ p, k + ys.length ≤ p → zs.getD p 0 = 0) ∧ val zs + 1000000000 ^ (k + j) * q = val (xs.take k) * val ys + 1000000000 ^ k * (x * val (ys.take j))
theorem mul_step {P V q o x y N R : Int} (h : V + P * q = R) (hN : N = o + x * y + q) : V + P * (N % 1000000000 - o) + P * 1000000000 * (N / 1000000000) = R + P * (x * y) := by
  have e : N % 1000000000 + 1000000000 * (N / 1000000000) = N := by omega
  have e2 : P * (N % 1000000000 - o) + P * 1000000000 * (N / 1000000000) = P * (N - o) := by
    rw [Int.mul_assoc, ← Int.mul_add]; congr 1; omega
  rw [Int.add_assoc, e2, show N - o = x * y + q by omega, Int.mul_add]
  omega
theorem Prt.next {xs ys zs : List Int} {k j : Nat} {x q y o N : Int} (h : Prt xs ys zs k j x q) (hj : j < ys.length) (hk : k < xs.length) (hy : ys.getD j 0 = y) (ho : zs.getD (k + j) 0 = o) (hN : N = o + x * y + q) (h0 : 0 ≤ N) :
    Prt xs ys (zs.set (k + j) (N % 1000000000)) k (j + 1) x (N / 1000000000) := by
  obtain ⟨g1, g2, g3, g4⟩ := h
  refine ⟨by rw [List.length_set]; exact g1, g2.set _ (by omega), fun p hp => by rw [getD_set_ne (by omega)]; exact g3 p hp, ?_⟩
  have := mul_step (P := 1000000000 ^ (k + j)) g4 hN
  rw [val_set _ _ _ (by omega), ho, val_take_step, hy, ← Nat.add_assoc, Int.pow_succ, this, Int.mul_add, Int.mul_add, Int.add_assoc]
  congr 2
  rw [Int.pow_add, Int.mul_assoc]
  congr 1
  rw [← Int.mul_assoc, Int.mul_comm (1000000000 ^ j) x, Int.mul_assoc]
theorem Prt.done {xs ys zs : List Int} {k : Nat} {x q : Int} (h : Prt xs ys zs k ys.length x q) (hk : k < xs.length) (hx : xs.getD k 0 = x) (hq : 0 ≤ q ∧ q ≤ 999999999) : Prd xs ys (zs.set (k + ys.length) q) (k + 1) := by
  obtain ⟨g1, g2, g3, g4⟩ := h
  have hz := g3 (k + ys.length) (Nat.le_refl _)
  refine ⟨by rw [List.length_set]; exact g1, g2.set _ hq, fun p hp => by rw [getD_set_ne (by omega)]; exact g3 p (by omega), ?_⟩
  rw [val_set _ _ _ (by omega), hz, Int.sub_zero, g4, List.take_of_length_le (Nat.le_refl _), val_take_step, hx, Int.add_mul, Int.mul_assoc]
theorem val_drop {l : List Int} {j : Nat} (h : j < l.length) : val (l.drop j) = l[j] + 1000000000 * val (l.drop (j + 1)) := by
  rw [List.drop_eq_getElem_cons h, val]
theorem ret_si {v v' : Value} {a b : Int} (h1 : v = v') (h2 : a = b) : Ending.returned (.tuple #[v, .int .i64 a]) = .returned (.tuple #[v', .int .i64 b]) := by rw [h1, h2]
/-- two lists of the call's own, in stretches apart -/
def Two (w w' : World) (E : TypeId) (v1 : Value) (xs : List Int) (v2 : Value) (ys : List Int) : Prop :=
  ∃ l1 h1 l2 h2, Own w' l1 h1 E v1 xs.length (iv xs) ∧ Own w' l2 h2 E v2 ys.length (iv ys) ∧ w.heap.size ≤ l1 ∧ w.heap.size ≤ l2 ∧ h1 ≤ w'.heap.size ∧ h2 ≤ w'.heap.size ∧ (h1 ≤ l2 ∨ h2 ≤ l1)
theorem two_nil (w : World) (E : TypeId) : Two w w E (.slice none 0 0) [] (.slice none 0 0) [] :=
  ⟨w.heap.size, w.heap.size, w.heap.size, w.heap.size, Own.nil _ _ _ _, Own.nil _ _ _ _, Nat.le_refl _, Nat.le_refl _, Nat.le_refl _, Nat.le_refl _, .inl (Nat.le_refl _)⟩
theorem natV_limbs (n : Nat) : natV (limbs n) = n := by rw [natV, val_limbs]; simp
theorem natB_limbs {n : Nat} (h : n < 1000000000 ^ 60) : natB (limbs n) = true := (natB_iff _).2 ⟨limbs_canon n, limbs_len.2 h⟩
theorem RdI.of_own {w : World} {lo hi n c : Nat} {E : TypeId} {A : Option Addr} {xs : List Int} (o : Own w lo hi E (.slice A n c) n (iv xs)) (hl : n ≤ 1048576) (hw : Limbs xs) : RdI w w.heap.size A n xs :=
  ⟨by have := o.len; rwa [iv_len] at this, o.rd, hl, fun d hd => by have := hw d hd; exact WalkArith.wf_i64 ⟨by omega, by omega⟩⟩
theorem iv_inj {xs ys : List Int} (h : iv xs = iv ys) : xs = ys := by
  have : ∀ (a b : List Int), iv a = iv b → a = b := by
    intro a
    induction a with
    | nil => intro b hb; cases b with
      | nil => rfl
      | cons y r => simp [iv] at hb
    | cons x a ih => intro b hb; cases b with
      | nil => simp [iv] at hb
      | cons y r =>
        simp only [iv, List.map_cons, List.cons.injEq, Value.int.injEq, true_and] at hb
        rw [hb.1, ih r hb.2]
  exact this xs ys h
theorem Own.uniq {w : World} {lo hi n m : Nat} {E : TypeId} {v : Value} {xs ys : List Value} (a : Own w lo hi E v n xs) (b : Own w lo hi E v m ys) : xs = ys := by
  have la := a.1
  have lb := b.1
  rcases a.2 with ⟨h1, h2⟩ | ⟨g, c, cur, hv, _, _, _, _, hg, r, _⟩
  · rcases b.2 with ⟨_, h4⟩ | ⟨g', c', cur', hv', _⟩
    · rw [List.eq_nil_of_length_eq_zero (la.trans h2), List.eq_nil_of_length_eq_zero (lb.trans h4)]
    · rw [h1] at hv'; cases hv'
  · rcases b.2 with ⟨h3, _⟩ | ⟨g', c', cur', hv', _, _, _, _, hg', r', _⟩
    · rw [h3] at hv; cases hv
    · rw [hv] at hv'
      injection hv' with e1 e2 e3
      injection e1 with e1; injection e1 with e1
      subst e1 e2
      rw [hg] at hg'
      injection hg' with hg'; injection hg' with hg'
      subst hg'
      rw [← r, ← r']
theorem limbs_inj {a b : Nat} (h : limbs a = limbs b) : a = b := by rw [← natV_limbs a, h, natV_limbs]
theorem gcdL_ok {a b : List Int} (ha : natB a = true) (hb : natB b = true) : limbs (Nat.gcd (natV a) (natV b)) = gcdL a b := by rw [gcdL, ha, hb]; rfl
end Go.Proofs.Ytdcceppednngjab

/-
  Structs in blocks: what a block holds, kept; results that are structs.
-/


namespace Go.Proofs.Ytdcceppednngjab
open Go.RowKit
set_option linter.unusedVariables false

theorem heap_last {w : World} {o : Obj} {k : Nat} (hk : k = w.heap.size) : (w.alloc o).heap[k]? = some o := by
  subst hk; show (w.heap.push o)[w.heap.size]? = _; rw [Array.getElem?_push_size]
theorem heap_old {w : World} {o x : Obj} {k : Nat} (h : w.heap[k]? = some x) : (w.alloc o).heap[k]? = some x := by
  have hk : k < w.heap.size := (Array.getElem?_eq_some_iff.1 h).1
  show (w.heap.push o)[k]? = _
  rw [Array.getElem?_push]
  rw [if_neg (by omega)]; exact h
theorem alloc_size (w : World) (o : Obj) : (w.alloc o).heap.size = w.heap.size + 1 := by show (w.heap.push o).size = _; rw [Array.size_push]
/-- block g holds the values cs, and nothing besides -/
def Box (w : World) (g : Nat) (E : TypeId) (cs : Array Value) : Prop := w.heap[g]? = some (.cells cs E (0, 0))
section
variable {w w' : World} {g : Nat} {E : TypeId} {cs : Array Value} {B : Nat}
theorem Box.lt (h : Box w g E cs) : g < w.heap.size := (Array.getElem?_eq_some_iff.1 h).1
theorem Box.cell (h : Box w g E cs) (i : Nat) : w.cell? ⟨g, i, none⟩ = cs[i]? := Joins.cell_of_block h i
theorem Box.frozen (h : Box w g E cs) (i : Nat) : w.frozen? ⟨g, i, none⟩ = false := Joins.unfrozen_of_block h i
theorem Box.below (h : Box w g E cs) (hb : Below B w w') (hd : g < B) : Box w' g E cs := by show w'.heap[g]? = _; rw [hb.block g hd]; exact h
theorem Box.set (h : Box w g E cs) (i : Nat) (v : Value) : Box (w.setCell ⟨g, i, none⟩ v) g E (cs.setIfInBounds i v) := Joins.block_setCell h v
theorem Box.alloc (h : Box w g E cs) (o : Obj) : Box (w.alloc o) g E cs := heap_old h
end
theorem Box.last (w : World) (E : TypeId) (cs : Array Value) {k : Nat} (hk : k = w.heap.size) : Box (w.alloc (.cells cs E)) k E cs := heap_last hk
theorem Box.drew {w : World} {g : Nat} {E : TypeId} {cs : Array Value} (h : Box w g E cs) : Box w.drew g E cs := h
theorem Box.set2 {w : World} {g : Nat} {E : TypeId} {a b : Value} (h : Box w g E #[a, b]) (x y : Value) : Box ((w.setCell ⟨g, 0, none⟩ x).setCell ⟨g, 1, none⟩ y) g E #[x, y] := (h.set 0 x).set 1 y
theorem below_alloc {w W : World} (h : Below w.heap.size w W) (o : Obj) : Below w.heap.size w (W.alloc o) := h.alloc h.size o
theorem below_then {w W W' : World} (h : Below w.heap.size w W) (k : Below W.heap.size W W') : Below w.heap.size w W' := h.trans (k.mono h.size)
theorem below_new (w : World) (o : Obj) : Below w.heap.size w (w.alloc o) := below_alloc (Below.refl _ _) o
theorem Own.setv {w : World} {lo hi n : Nat} {E : TypeId} {v : Value} {xs : List Value} (h : Own w lo hi E v n xs) {g : Nat} (hg : g < lo ∨ hi ≤ g) (j : Nat) (u : Value) : Own (w.setCell ⟨g, j, none⟩ u) lo hi E v n xs :=
  h.aside ((Aside.refl w (lo := g) (hi := g + 1)).setCell (Nat.le_refl _) (Nat.lt_succ_self _) u) (by omega)
theorem Box.setv {w : World} {g : Nat} {E : TypeId} {cs : Array Value} (h : Box w g E cs) {g' : Nat} (hg : g ≠ g') (j : Nat) (u : Value) : Box (w.setCell ⟨g', j, none⟩ u) g E cs := by
  show (w.setCell ⟨g', j, none⟩ u).heap[g]? = _
  rw [((Aside.refl w (lo := g') (hi := g' + 1)).setCell (Nat.le_refl _) (Nat.lt_succ_self _) u).block g h.lt (by omega)]
  exact h
theorem setCell_size (w : World) (a : Addr) (u : Value) : (w.setCell a u).heap.size = w.heap.size := by unfold World.setCell; split <;> simp
/-- a result of two cells, stored into its variable: the block, the list, the rest -/
theorem ret_big {w W : World} {g lo hi n : Nat} {E F : TypeId} {a b x v : Value} {xs : List Value} (k : Box W g E #[a, b]) (o : Own W lo hi F v n xs) (hb : Below w.heap.size w W) (hg : w.heap.size ≤ g) (hlo : g < lo) (hhi : hi ≤ W.heap.size) :
    Box ((W.setCell ⟨g, 0, none⟩ x).setCell ⟨g, 1, none⟩ v) g E #[x, v] ∧ Own ((W.setCell ⟨g, 0, none⟩ x).setCell ⟨g, 1, none⟩ v) w.heap.size ((W.setCell ⟨g, 0, none⟩ x).setCell ⟨g, 1, none⟩ v).heap.size F v n xs ∧ Below w.heap.size w ((W.setCell ⟨g, 0, none⟩ x).setCell ⟨g, 1, none⟩ v) :=
  ⟨k.set2 x v, ((o.setv (.inl hlo) 0 x).setv (.inl hlo) 1 v).wider (by omega) (by rw [setCell_size, setCell_size]; exact hhi), (hb.setCell (p := ⟨g, 0, none⟩) hg x).setCell (p := ⟨g, 1, none⟩) hg v⟩
/-- the same where the list is the first cell -/
theorem ret_bigS {w W : World} {g lo hi n : Nat} {E F : TypeId} {a b x v : Value} {xs : List Value} (k : Box W g E #[a, b]) (o : Own W lo hi F v n xs) (hb : Below w.heap.size w W) (hg : w.heap.size ≤ g) (hlo : g < lo) (hhi : hi ≤ W.heap.size) :
    Box ((W.setCell ⟨g, 0, none⟩ v).setCell ⟨g, 1, none⟩ x) g E #[v, x] ∧ Own ((W.setCell ⟨g, 0, none⟩ v).setCell ⟨g, 1, none⟩ x) w.heap.size ((W.setCell ⟨g, 0, none⟩ v).setCell ⟨g, 1, none⟩ x).heap.size F v n xs ∧ Below w.heap.size w ((W.setCell ⟨g, 0, none⟩ v).setCell ⟨g, 1, none⟩ x) :=
  ⟨k.set2 v x, ((o.setv (.inl hlo) 0 v).setv (.inl hlo) 1 x).wider (by omega) (by rw [setCell_size, setCell_size]; exact hhi), (hb.setCell (p := ⟨g, 0, none⟩) hg v).setCell (p := ⟨g, 1, none⟩) hg x⟩
/-- the same where nothing is kept in memory of the call's own -/
theorem ret_big0 {w W : World} {g : Nat} {E : TypeId} {a b x v : Value} (k : Box W g E #[a, b]) (hb : Below w.heap.size w W) (hg : w.heap.size ≤ g) :
    Box ((W.setCell ⟨g, 0, none⟩ x).setCell ⟨g, 1, none⟩ v) g E #[x, v] ∧ Below w.heap.size w ((W.setCell ⟨g, 0, none⟩ x).setCell ⟨g, 1, none⟩ v) :=
  ⟨k.set2 x v, (hb.setCell (p := ⟨g, 0, none⟩) hg x).setCell (p := ⟨g, 1, none⟩) hg v⟩
theorem results_cell_tmp {P : Program} {fn : Func} {p u : Tmp} {ty : TypeId} (h : fn.results = #[.cell p ty, .tmp u]) (tmps : Array Value) (w : World) (g : Nat) (t : TypeId) (cs : Array Value) (fr : Nat × Nat) (d : TypeDesc)
    (hp : tmps.getD p undef = .pointer (some ⟨g, 0, none⟩)) (hg : w.heap[g]? = some (.cells cs t fr))
    (hu : P.underlying ty = some d) (hd : (match d with | .struct _ | .array _ _ => true | _ => false) = true) (hi : (P.info? ty).map (·.size) = some cs.size) :
    (results fn tmps).run P w = .ok (.tuple #[.agg cs, tmps.getD u undef]) w := by
  have hp' : tmps[p]?.getD undef = .pointer (some ⟨g, 0, none⟩) := by simpa using hp
  simp [results, h, hp', asAddr, run_loadVar_row w g t ty cs fr d hg hu hd hi]
theorem Box.facts {w : World} {g : Nat} {E : TypeId} {a b : Value} (h : Box w g E #[a, b]) : w.cell? ⟨g, 0, none⟩ = some a ∧ w.cell? ⟨g, 1, none⟩ = some b ∧ w.frozen? ⟨g, 0, none⟩ = false ∧ w.frozen? ⟨g, 1, none⟩ = false :=
  ⟨h.cell 0, h.cell 1, h.frozen 0, h.frozen 1⟩
theorem Box.aside {w w' : World} {g : Nat} {E : TypeId} {cs : Array Value} {lo hi : Nat} (h : Box w g E cs) (ha : Aside lo hi w w') (hd : g < lo ∨ hi ≤ g) : Box w' g E cs := by
  show w'.heap[g]? = _
  rw [ha.block g h.lt hd]; exact h
theorem drew_size (w : World) : w.drew.heap.size = w.heap.size := rfl
theorem below_set2 {w W : World} {g : Nat} (hb : Below w.heap.size w W) (hg : w.heap.size ≤ g) (x y : Value) : Below w.heap.size w ((W.setCell ⟨g, 0, none⟩ x).setCell ⟨g, 1, none⟩ y) := (hb.setCell (p := ⟨g, 0, none⟩) hg _).setCell (p := ⟨g, 1, none⟩) hg _
theorem Try.sizeBig : (Try.prog.info? 30).map (·.size) = some 2 := by kernel_rfl
theorem Try.sizeSigned : (Try.prog.info? 68).map (·.size) = some 2 := by kernel_rfl
end Go.Proofs.Ytdcceppednngjab

/-
  Big integers: the number of a sign and a magnitude, and what each function answers.
-/

namespace Go.Proofs.Ytdcceppednngjab
open Go.RowKit
set_option linter.unusedVariables false

/-- the number of a sign and a magnitude -/
def zv (s : Bool) (xs : List Int) : Int := if s then -val xs else val xs
def bigB (s : Bool) (xs : List Int) : Bool := natB xs && !(s && xs.isEmpty)
/-- the big integer of a number, no number where it is too long -/
def capZ (z : Int) : Bool × List Int := (decide (z < 0) && !(capL z.natAbs).isEmpty, capL z.natAbs)
def noZ : Bool × List Int := (false, [])
def negZ (s : Bool) (xs : List Int) : Bool × List Int := if bigB s xs then capZ (-zv s xs) else noZ
def addZ (s : Bool) (xs : List Int) (t : Bool) (ys : List Int) : Bool × List Int := if bigB s xs && bigB t ys then capZ (zv s xs + zv t ys) else noZ
def mulZ (s : Bool) (xs : List Int) (t : Bool) (ys : List Int) : Bool × List Int := if bigB s xs && bigB t ys then capZ (zv s xs * zv t ys) else noZ
def cmpZ (s : Bool) (xs : List Int) (t : Bool) (ys : List Int) : Int := if bigB s xs && bigB t ys then cmpV (zv s xs) (zv t ys) else 0
theorem capL_60 (n : Nat) : (capL n).length ≤ 60 := by unfold capL; split <;> simp_all
theorem capZ_len (z : Int) : (capZ z).2.length ≤ 60 := capL_60 _
theorem noZ_len : noZ.2.length ≤ 60 := by simp [noZ]
theorem negZ_len (s : Bool) (xs : List Int) : (negZ s xs).2.length ≤ 1048576 := by
  unfold negZ; split
  · have := capZ_len (-zv s xs); omega
  · have := noZ_len; omega
theorem addZ_len (s : Bool) (xs : List Int) (t : Bool) (ys : List Int) : (addZ s xs t ys).2.length ≤ 1048576 := by
  unfold addZ; split
  · have := capZ_len (zv s xs + zv t ys); omega
  · have := noZ_len; omega
theorem mulZ_len (s : Bool) (xs : List Int) (t : Bool) (ys : List Int) : (mulZ s xs t ys).2.length ≤ 1048576 := by
  unfold mulZ; split
  · have := capZ_len (zv s xs * zv t ys); omega
  · have := noZ_len; omega
theorem ofZ_len (z : Int) : (capZ z).2.length ≤ 1048576 := by have := capZ_len z; omega
theorem capL_zero : capL 0 = [] := by unfold capL; rw [limbs_zero]; simp
theorem capL_of {n : Nat} (h : n < 1000000000 ^ 60) : capL n = limbs n := by unfold capL; rw [if_pos (limbs_len.2 h)]
/-- a sign and a magnitude, made a big integer -/
theorem capZ_make (s : Bool) (k : Nat) : (s && !(capL k).isEmpty, capL k) = capZ (if s then -(k : Int) else k) := by
  cases s
  · have h : ¬ ((k : Int) < 0) := by omega
    simp [capZ, h]
  · by_cases h : k = 0
    · subst h; simp [capZ, capL_zero]
    · have h' : -(k : Int) < 0 := by omega
      have e : (-(k : Int)).natAbs = k := by omega
      show _ = (decide (-(k : Int) < 0) && !(capL (-(k : Int)).natAbs).isEmpty, capL (-(k : Int)).natAbs)
      rw [e, decide_eq_true h']
theorem capZ_make' (s : Bool) (k : Nat) (b : Bool) (l : List Int) (hl : l = capL k) (hb : b = (s && !l.isEmpty)) : (b, l) = capZ (if s then -(k : Int) else k) := by
  subst hl; subst hb; exact capZ_make s k

theorem bigB_nat {s : Bool} {xs : List Int} (h : bigB s xs = true) : natB xs = true := by unfold bigB at h; simp at h; exact h.1
theorem bigB_bad {s : Bool} {xs : List Int} (h : natB xs = false) : bigB s xs = false := by unfold bigB; rw [h]; rfl
theorem natV_nonneg {xs : List Int} (h : natB xs = true) : 0 ≤ val xs := by have := natV_val h; omega
theorem natB_lt {xs : List Int} (h : natB xs = true) : natV xs < 1000000000 ^ 60 := limbs_len.1 (by rw [limbs_natV h]; exact ((natB_iff xs).1 h).2)
theorem natB_zero {xs : List Int} (h : natB xs = true) : xs.isEmpty = decide (natV xs = 0) := by
  by_cases h0 : natV xs = 0
  · have := limbs_natV h
    rw [h0, limbs_zero] at this
    subst this; simp [natV, val]
  · have hne : xs ≠ [] := by intro e; subst e; exact h0 (by simp [natV, val])
    rw [decide_eq_false h0]
    cases xs with
    | nil => exact absurd rfl hne
    | cons a l => rfl
theorem zv_neg (s : Bool) (xs : List Int) : zv (!s) xs = -zv s xs := by cases s <;> simp [zv]
theorem zv_nat {s : Bool} {xs : List Int} (h : natB xs = true) : zv s xs = if s then -(natV xs : Int) else natV xs := by unfold zv; rw [natV_val h]
theorem big_capZ (s : Bool) {xs : List Int} (h : natB xs = true) : (s && !xs.isEmpty, xs) = capZ (zv s xs) := by
  have h2 : xs = capL (natV xs) := by rw [capL_of (natB_lt h), limbs_natV h]
  rw [zv_nat h, capZ_make' s (natV xs) _ xs h2 rfl]
theorem negZ_ok {s : Bool} {xs : List Int} (h : bigB s xs = true) : (!s && !xs.isEmpty, xs) = negZ s xs := by
  rw [negZ, h, if_pos rfl, ← zv_neg, big_capZ _ (bigB_nat h)]
theorem zv_norm (u : Bool) (ys : List Int) : zv (u && !ys.isEmpty) ys = zv u ys := by
  cases ys with
  | nil => cases u <;> simp [zv, val]
  | cons a l => simp
theorem isEmpty_len {xs : List Int} {n : Nat} (h : xs.length = n) : xs.isEmpty = ((n : Int) == 0) := by
  subst h; cases xs with
  | nil => rfl
  | cons a l => simp; omega
end Go.Proofs.Ytdcceppednngjab

/-
  Big integers: floor division, said of numbers.
-/

namespace Go.Proofs.Ytdcceppednngjab
open Go.RowKit
set_option linter.unusedVariables false

theorem quoL_60 {a b : List Int} (ha : natB a = true) (hb : natB b = true) : (quoL a b).length ≤ 60 := by
  rw [quoL, ha, hb]
  exact limbs_len.2 (Nat.lt_of_le_of_lt (Nat.div_le_self _ _) (natB_lt ha))
end Go.Proofs.Ytdcceppednngjab

/-
  Fractions: the reduced fraction of a numerator and a denominator, and what each function answers.
-/

namespace Go.Proofs.Ytdcceppednngjab
open Go.RowKit
set_option linter.unusedVariables false

def noR : (Bool × List Int) × List Int := ((false, []), [])
/-- what a sign, a magnitude and a denominator must be for a fraction -/
def shortB (xs ds : List Int) : Bool := decide (xs.length ≤ 24) && decide (ds.length ≤ 24)
def ratB (s : Bool) (xs ds : List Int) : Bool := shortB xs ds && !ds.isEmpty && bigB s xs && decide (gcdL xs ds = [1])
/-- the fraction of a number over a natural number, reduced; none where it is too long -/
def lowR (z : Int) (d : Nat) : (Bool × List Int) × List Int :=
  if d ≠ 0 ∧ (limbs (z.natAbs / Nat.gcd z.natAbs d)).length ≤ 24 ∧ (limbs (d / Nat.gcd z.natAbs d)).length ≤ 24 then ((decide (z < 0), limbs (z.natAbs / Nat.gcd z.natAbs d)), limbs (d / Nat.gcd z.natAbs d)) else noR
def makeR (s : Bool) (xs : List Int) (t : Bool) (ys : List Int) : (Bool × List Int) × List Int := if bigB s xs && bigB t ys then lowR (if t then -zv s xs else zv s xs) (natV ys) else noR
def addR (s : Bool) (xs ds : List Int) (t : Bool) (ys es : List Int) : (Bool × List Int) × List Int := if ratB s xs ds && ratB t ys es then lowR (zv s xs * val es + zv t ys * val ds) (natV ds * natV es) else noR
def cmpW (s : Bool) (xs ds : List Int) (t : Bool) (ys es : List Int) : Int := cmpV (zv s xs * val es) (zv t ys * val ds)
def cmpR (s : Bool) (xs ds : List Int) (t : Bool) (ys es : List Int) : Int := if ratB s xs ds && ratB t ys es then cmpW s xs ds t ys es else 0
def signR (s : Bool) (xs ds : List Int) : Int := if ratB s xs ds then cmpV (zv s xs) 0 else 0
def sameR (s : Bool) (xs ds : List Int) (t : Bool) (ys es : List Int) : Bool := (s == t) && decide (xs = ys) && decide (ds = es)
def maxR (s : Bool) (xs ds : List Int) (t : Bool) (ys es : List Int) : (Bool × List Int) × List Int := if ratB s xs ds && ratB t ys es then (if 0 ≤ cmpW s xs ds t ys es then ((s, xs), ds) else ((t, ys), es)) else noR

theorem lowR_len (z : Int) (d : Nat) : (lowR z d).1.2.length ≤ 24 ∧ (lowR z d).2.length ≤ 24 := by
  unfold lowR; split
  · rename_i h; exact ⟨h.2.1, h.2.2⟩
  · simp [noR]
theorem ratB_short {s : Bool} {xs ds : List Int} (h : ratB s xs ds = true) : xs.length ≤ 24 ∧ ds.length ≤ 24 := by
  unfold ratB shortB at h; simp at h; exact ⟨h.1.1.1.1, h.1.1.1.2⟩
theorem ratB_big {s : Bool} {xs ds : List Int} (h : ratB s xs ds = true) : bigB s xs = true := by
  unfold ratB at h; simp at h; exact h.1.2
theorem ratB_den {s : Bool} {xs ds : List Int} (h : ratB s xs ds = true) : natB ds = true := by
  unfold ratB at h
  simp only [Bool.and_eq_true, decide_eq_true_eq] at h
  have hg := h.2
  unfold gcdL at hg
  split at hg
  · rename_i hh; simp at hh; exact hh.2
  · cases hg
theorem ratB_pos {s : Bool} {xs ds : List Int} (h : ratB s xs ds = true) : ds.isEmpty = false := by
  unfold ratB at h; simp at h; simpa using h.1.1.2
theorem natV_pos {ds : List Int} (h : natB ds = true) (h0 : ds.isEmpty = false) : 0 < natV ds := by
  have := natB_zero h
  rw [h0] at this
  have h2 : natV ds ≠ 0 := by intro e; rw [e] at this; simp at this
  omega
theorem lowR_len' (z : Int) (d : Nat) : (lowR z d).1.2.length ≤ 1048576 ∧ (lowR z d).2.length ≤ 1048576 := by have := lowR_len z d; omega
theorem ofR_len (n : Int) : (((capZ n), [1]) : (Bool × List Int) × List Int).1.2.length ≤ 1048576 ∧ (((capZ n), [1]) : (Bool × List Int) × List Int).2.length ≤ 1048576 := ⟨ofZ_len n, by show 1 ≤ 1048576; omega⟩

/-! ### numbers and their lists -/
theorem limbs_one : limbs 1 = [1] := by rw [limbs_pos (by omega), show 1 / 1000000000 = 0 by rfl, limbs_zero]; rfl
theorem one_iff {n : Nat} : limbs n = [1] ↔ n = 1 := ⟨fun h => limbs_inj (h.trans limbs_one.symm), fun h => by rw [h]; exact limbs_one⟩
theorem gcd_short {n k : Nat} (h : n < 1000000000 ^ 60) (hn : 0 < n) : Nat.gcd k n < 1000000000 ^ 60 := Nat.lt_of_le_of_lt (Nat.le_of_dvd hn (Nat.gcd_dvd_right k n)) h
theorem natB_gcd {xs ds : List Int} (hx : natB xs = true) (hd : natB ds = true) (h0 : ds.isEmpty = false) : natB (gcdL xs ds) = true ∧ natV (gcdL xs ds) = Nat.gcd (natV xs) (natV ds) ∧ 0 < natV (gcdL xs ds) ∧ (gcdL xs ds).isEmpty = false := by
  have hp := natV_pos hd h0
  have e : gcdL xs ds = limbs (Nat.gcd (natV xs) (natV ds)) := by rw [gcdL, hx, hd]; rfl
  have hg : 0 < Nat.gcd (natV xs) (natV ds) := Nat.gcd_pos_of_pos_right _ hp
  have hb : natB (limbs (Nat.gcd (natV xs) (natV ds))) = true := natB_limbs (gcd_short (natB_lt hd) hp)
  rw [e, natV_limbs]
  refine ⟨hb, rfl, hg, ?_⟩
  rw [natB_zero hb, natV_limbs]
  exact decide_eq_false (by omega)
theorem zv_abs {s : Bool} {xs : List Int} (h : natB xs = true) : (zv s xs).natAbs = natV xs := by
  rw [zv_nat h]; split <;> omega
theorem zv_lt {s : Bool} {xs : List Int} (h : bigB s xs = true) : decide (zv s xs < 0) = s := by
  have hn := bigB_nat h
  rw [zv_nat hn]
  cases s
  · exact decide_eq_false (by simp)
  · unfold bigB at h
    simp at h
    have hz := natB_zero hn
    have : xs.isEmpty = false := by simpa using h.2
    rw [this] at hz
    have h2 : natV xs ≠ 0 := by intro e; rw [e] at hz; simp at hz
    exact decide_eq_true (by simp; omega)
/-- what the program's 'reduced' makes -/
theorem low_prog {s : Bool} {xs ds : List Int} (hx : bigB s xs = true) (hd : natB ds = true) (h0 : ds.isEmpty = false) :
    (if shortB (quoL xs (gcdL xs ds)) (quoL ds (gcdL xs ds)) then ((s, quoL xs (gcdL xs ds)), quoL ds (gcdL xs ds)) else noR) = lowR (zv s xs) (natV ds) := by
  have hn := bigB_nat hx
  obtain ⟨g1, g2, g3, g4⟩ := natB_gcd hn hd h0
  have hp := natV_pos hd h0
  have e1 : quoL xs (gcdL xs ds) = limbs (natV xs / Nat.gcd (natV xs) (natV ds)) := by rw [quoL, hn, g1, g2]; rfl
  have e2 : quoL ds (gcdL xs ds) = limbs (natV ds / Nat.gcd (natV xs) (natV ds)) := by rw [quoL, hd, g1, g2]; rfl
  rw [e1, e2, lowR, zv_abs hn, zv_lt hx]
  by_cases h : (limbs (natV xs / Nat.gcd (natV xs) (natV ds))).length ≤ 24 ∧ (limbs (natV ds / Nat.gcd (natV xs) (natV ds))).length ≤ 24
  · rw [if_pos (by simp [shortB, h.1, h.2]), if_pos ⟨by omega, h⟩]
  · rw [if_neg (by simp [shortB]; intro a; have := fun b => h ⟨a, b⟩; omega), if_neg (fun k => h k.2)]
/-- a big integer's number -/
theorem capZ_back {z : Int} (h : z.natAbs < 1000000000 ^ 60) : bigB (capZ z).1 (capZ z).2 = true ∧ zv (capZ z).1 (capZ z).2 = z ∧ natB (capZ z).2 = true ∧ natV (capZ z).2 = z.natAbs := by
  have e : capL z.natAbs = limbs z.natAbs := capL_of h
  have hb := natB_limbs h
  have hv := natV_limbs z.natAbs
  have hz := natB_zero hb
  rw [hv] at hz
  show bigB (decide (z < 0) && !(capL z.natAbs).isEmpty) (capL z.natAbs) = true ∧ zv (decide (z < 0) && !(capL z.natAbs).isEmpty) (capL z.natAbs) = z ∧ natB (capL z.natAbs) = true ∧ natV (capL z.natAbs) = z.natAbs
  rw [e]
  refine ⟨?_, ?_, hb, hv⟩
  · rw [bigB, hb]
    cases decide (z < 0) <;> cases (limbs z.natAbs).isEmpty <;> rfl
  · rw [zv_norm, zv_nat hb, hv]
    by_cases hz : z < 0
    · rw [decide_eq_true hz, if_pos rfl]; omega
    · rw [decide_eq_false hz, if_neg (by simp)]; omega
theorem capZ_sign (z : Int) (h : z.natAbs < 1000000000 ^ 60) : (capZ z).1 = decide (z < 0) := by
  obtain ⟨h1, h2, _, _⟩ := capZ_back h
  rw [← zv_lt h1, h2]
theorem natV_24 {xs : List Int} (h : natB xs = true) (hl : xs.length ≤ 24) : natV xs < 1000000000 ^ 24 := by
  refine limbs_len.1 ?_
  rw [limbs_natV h]; exact hl
theorem prod_48 {a b : Nat} (ha : a < 1000000000 ^ 24) (hb : b < 1000000000 ^ 24) : a * b < 1000000000 ^ 48 := by
  have : a * b < 1000000000 ^ 24 * 1000000000 ^ 24 := Nat.mul_lt_mul'' ha hb
  rwa [← Nat.pow_add] at this
theorem pow48 : (1000000000 : Nat) ^ 48 + 1000000000 ^ 48 < 1000000000 ^ 60 := by decide +kernel
theorem zval {ds : List Int} (h : natB ds = true) : val ds = (natV ds : Int) := (natV_val h).symm
theorem mul_abs {s : Bool} {xs ds : List Int} (h : natB xs = true) (k : natB ds = true) : (zv s xs * val ds).natAbs = natV xs * natV ds := by
  rw [Int.natAbs_mul, zv_abs h, zval k]; rfl
/-- the numerator over the product of both denominators -/
theorem numB {s t : Bool} {xs ds ys es : List Int} (h : ratB s xs ds = true) (k : ratB t ys es = true) : (zv s xs * val es).natAbs < 1000000000 ^ 48 := by
  rw [mul_abs (bigB_nat (ratB_big h)) (ratB_den k)]
  exact prod_48 (natV_24 (bigB_nat (ratB_big h)) (ratB_short h).1) (natV_24 (ratB_den k) (ratB_short k).2)
theorem lt60 {n : Nat} (h : n < 1000000000 ^ 48) : n < 1000000000 ^ 60 := by have := pow48; omega
theorem num_mulZ {s : Bool} {xs es : List Int} (h : bigB s xs = true) (k : natB es = true) : mulZ s xs false es = capZ (zv s xs * val es) := by
  have hb : bigB false es = true := by rw [bigB, k]; rfl
  rw [mulZ, h, hb]; rfl
theorem den_mulL {ds es : List Int} (h : natB ds = true) (k : natB es = true) (hl : natV ds * natV es < 1000000000 ^ 60) : mulL ds es = limbs (natV ds * natV es) ∧ natB (mulL ds es) = true ∧ natV (mulL ds es) = natV ds * natV es := by
  have e : mulL ds es = limbs (natV ds * natV es) := by rw [mulL, h, k]; exact capL_of hl
  rw [e]
  exact ⟨rfl, natB_limbs hl, natV_limbs _⟩
theorem den_pos {ds es : List Int} (h : natB ds = true) (k : natB es = true) (h0 : ds.isEmpty = false) (k0 : es.isEmpty = false) (hl : natV ds * natV es < 1000000000 ^ 60) : (mulL ds es).isEmpty = false := by
  obtain ⟨_, h2, h3⟩ := den_mulL h k hl
  rw [natB_zero h2, h3]
  exact decide_eq_false (Nat.ne_of_gt (Nat.mul_pos (natV_pos h h0) (natV_pos k k0)))
theorem ratB_no1 {s : Bool} {xs ds : List Int} (h : shortB xs ds = false) : ratB s xs ds = false := by rw [ratB, h]; rfl
theorem ratB_no2 {s : Bool} {xs ds : List Int} (h : ds.isEmpty = true) : ratB s xs ds = false := by rw [ratB, h]; simp
theorem ratB_no3 {s : Bool} {xs ds : List Int} (h : bigB s xs = false) : ratB s xs ds = false := by rw [ratB, h]; simp
theorem ratB_ok {s : Bool} {xs ds : List Int} (h1 : shortB xs ds = true) (h2 : ds.isEmpty = false) (h3 : bigB s xs = true) : ratB s xs ds = decide (gcdL xs ds = [1]) := by rw [ratB, h1, h2, h3]; rfl
theorem limbs_gcdL (a b : List Int) : Limbs (gcdL a b) := by rw [gcdL]; split; exact limbs_ok _; exact Limbs.nil
theorem one_dec {xs : List Int} (h : xs.length = 1) (h0 : 0 < xs.length) : decide (xs = [1]) = (xs[0] == 1) := by
  match xs, h with
  | [a], _ =>
    by_cases ha : a = 1
    · subst ha; rfl
    · have h2 : ([a] : List Int) ≠ [1] := by intro e; simp at e; exact ha e
      rw [decide_eq_false h2]; simp [ha]
theorem one_no {xs : List Int} (h : xs.length ≠ 1) : decide (xs = [1]) = false := decide_eq_false (by intro e; subst e; exact h rfl)
theorem short_dec {xs ds : List Int} {n m : Nat} (hn : xs.length = n) (hm : ds.length = m) (h : n ≤ 24) : shortB xs ds = decide ((m : Int) ≤ 24) := by
  subst hn; subst hm
  rw [shortB, decide_eq_true h, Bool.true_and]
  by_cases k : ds.length ≤ 24
  · rw [decide_eq_true k, decide_eq_true (by omega)]
  · rw [decide_eq_false k, decide_eq_false (by omega)]
theorem short_no {xs ds : List Int} {n : Nat} (hn : xs.length = n) (h : ¬ n ≤ 24) : shortB xs ds = false := by
  subst hn
  rw [shortB, decide_eq_false h]; rfl
theorem notE {xs : List Int} {n : Nat} (hn : xs.length = n) (h : 0 < n) : xs.isEmpty = false := by
  cases xs with
  | nil => subst hn; simp at h
  | cons a l => rfl
theorem isE {xs : List Int} {n : Nat} (hn : xs.length = n) (h : ¬ 0 < n) : xs.isEmpty = true := by
  cases xs with
  | nil => rfl
  | cons a l => subst hn; simp at h
end Go.Proofs.Ytdcceppednngjab

/-
  Fractions: what the program's way of reckoning comes to.
-/

namespace Go.Proofs.Ytdcceppednngjab
open Go.RowKit
set_option linter.unusedVariables false

theorem makeR_no {s t : Bool} {xs ys : List Int} (h : bigB s xs = false ∨ bigB t ys = false ∨ ys.isEmpty = true) : makeR s xs t ys = noR := by
  rcases h with h | h | h
  · rw [makeR, h]; rfl
  · rw [makeR, h]; simp
  · have e : natV ys = 0 := by cases ys with
      | nil => rfl
      | cons a l => simp at h
    have h2 : ∀ z, lowR z 0 = noR := fun z => by rw [lowR, if_neg (by simp)]
    rw [makeR, e, h2]; split <;> rfl
theorem makeR_pos {s : Bool} {xs ys : List Int} (h : bigB s xs = true) (k : bigB false ys = true) : makeR s xs false ys = lowR (zv s xs) (natV ys) := by rw [makeR, h, k]; rfl
theorem makeR_neg {s : Bool} {xs ys : List Int} (h : bigB s xs = true) (k : bigB true ys = true) : makeR s xs true ys = lowR (zv (negZ s xs).1 (negZ s xs).2) (natV ys) ∧ bigB (negZ s xs).1 (negZ s xs).2 = true := by
  have hb : (-zv s xs).natAbs < 1000000000 ^ 60 := by rw [Int.natAbs_neg, zv_abs (bigB_nat h)]; exact natB_lt (bigB_nat h)
  obtain ⟨h1, h2, _, _⟩ := capZ_back hb
  rw [makeR, negZ, h, k]
  exact ⟨by show lowR (-zv s xs) _ = lowR (zv (capZ (-zv s xs)).1 (capZ (-zv s xs)).2) _; rw [h2], h1⟩
theorem capZ_limbs (z : Int) : Limbs (capZ z).2 := by show Limbs (capL _); unfold capL; split; exact limbs_ok _; exact Limbs.nil
theorem negZ_limbs (s : Bool) (xs : List Int) : Limbs (negZ s xs).2 := by unfold negZ; split; exact capZ_limbs _; exact Limbs.nil
theorem mulZ_limbs (s : Bool) (xs : List Int) (t : Bool) (ys : List Int) : Limbs (mulZ s xs t ys).2 := by unfold mulZ; split; exact capZ_limbs _; exact Limbs.nil
theorem addZ_limbs (s : Bool) (xs : List Int) (t : Bool) (ys : List Int) : Limbs (addZ s xs t ys).2 := by unfold addZ; split; exact capZ_limbs _; exact Limbs.nil
theorem nat_big {ds : List Int} (h : natB ds = true) : bigB false ds = true := by rw [bigB, h]; rfl
theorem cmp_ok {s t : Bool} {xs ds ys es : List Int} (h : ratB s xs ds = true) (k : ratB t ys es = true) : cmpZ (mulZ s xs false es).1 (mulZ s xs false es).2 (mulZ t ys false ds).1 (mulZ t ys false ds).2 = cmpW s xs ds t ys es := by
  have e1 := num_mulZ (ratB_big h) (ratB_den k)
  have e2 := num_mulZ (ratB_big k) (ratB_den h)
  obtain ⟨a1, a2, _, _⟩ := capZ_back (lt60 (numB h k))
  obtain ⟨b1, b2, _, _⟩ := capZ_back (lt60 (numB k h))
  rw [e1, e2, cmpZ, a1, b1, a2, b2]; rfl
theorem mulL_limbs (a b : List Int) : Limbs (mulL a b) := by
  rw [mulL]; split
  · unfold capL; split; exact limbs_ok _; exact Limbs.nil
  · exact Limbs.nil
end Go.Proofs.Ytdcceppednngjab

/-
  Structs of three cells in blocks; results that are such structs, with two lists of the call's own.
-/


namespace Go.Proofs.Ytdcceppednngjab
open Go.RowKit
set_option linter.unusedVariables false

section
variable {w w' : World} {g : Nat} {E : TypeId} {a b c : Value}
theorem Box.facts3 (h : Box w g E #[a, b, c]) : w.cell? ⟨g, 0, none⟩ = some a ∧ w.cell? ⟨g, 1, none⟩ = some b ∧ w.cell? ⟨g, 2, none⟩ = some c ∧ w.frozen? ⟨g, 0, none⟩ = false ∧ w.frozen? ⟨g, 1, none⟩ = false ∧ w.frozen? ⟨g, 2, none⟩ = false :=
  ⟨h.cell 0, h.cell 1, h.cell 2, h.frozen 0, h.frozen 1, h.frozen 2⟩
theorem Box.cells3 (h : Box w g E #[a, b, c]) : w.cell? ⟨g, 0, none⟩ = some a ∧ w.cell? ⟨g, 1, none⟩ = some b ∧ w.cell? ⟨g, 2, none⟩ = some c :=
  ⟨h.cell 0, h.cell 1, h.cell 2⟩
theorem Box.cells2 (h : Box w g E #[a, b]) : w.cell? ⟨g, 0, none⟩ = some a ∧ w.cell? ⟨g, 1, none⟩ = some b :=
  ⟨h.cell 0, h.cell 1⟩
theorem Box.set3 (h : Box w g E #[a, b, c]) (x y z : Value) : Box (((w.setCell ⟨g, 0, none⟩ x).setCell ⟨g, 1, none⟩ y).setCell ⟨g, 2, none⟩ z) g E #[x, y, z] := ((h.set 0 x).set 1 y).set 2 z
end
theorem below_set3 {w W : World} {g : Nat} (hb : Below w.heap.size w W) (hg : w.heap.size ≤ g) (x y z : Value) : Below w.heap.size w (((W.setCell ⟨g, 0, none⟩ x).setCell ⟨g, 1, none⟩ y).setCell ⟨g, 2, none⟩ z) :=
  ((hb.setCell (p := ⟨g, 0, none⟩) hg _).setCell (p := ⟨g, 1, none⟩) hg _).setCell (p := ⟨g, 2, none⟩) hg _
theorem setCell3_size (w : World) (a b c : Addr) (x y z : Value) : (((w.setCell a x).setCell b y).setCell c z).heap.size = w.heap.size := by rw [setCell_size, setCell_size, setCell_size]
theorem Own.setv3 {w : World} {lo hi n : Nat} {E : TypeId} {v : Value} {xs : List Value} (h : Own w lo hi E v n xs) {g : Nat} (hg : g < lo ∨ hi ≤ g) (x y z : Value) : Own (((w.setCell ⟨g, 0, none⟩ x).setCell ⟨g, 1, none⟩ y).setCell ⟨g, 2, none⟩ z) lo hi E v n xs :=
  ((h.setv hg 0 x).setv hg 1 y).setv hg 2 z
theorem Box.setv3 {w : World} {g : Nat} {E : TypeId} {cs : Array Value} (h : Box w g E cs) {g' : Nat} (hg : g ≠ g') (x y z : Value) : Box (((w.setCell ⟨g', 0, none⟩ x).setCell ⟨g', 1, none⟩ y).setCell ⟨g', 2, none⟩ z) g E cs :=
  ((h.setv hg 0 x).setv hg 1 y).setv hg 2 z
/-- two lists of the call's own, in stretches apart, all from block B on -/
def Pair (w' : World) (B : Nat) (E : TypeId) (v1 : Value) (xs : List Int) (v2 : Value) (ys : List Int) : Prop :=
  ∃ l1 h1 l2 h2, Own w' l1 h1 E v1 xs.length (iv xs) ∧ Own w' l2 h2 E v2 ys.length (iv ys) ∧ B ≤ l1 ∧ B ≤ l2 ∧ h1 ≤ w'.heap.size ∧ h2 ≤ w'.heap.size ∧ (h1 ≤ l2 ∨ h2 ≤ l1)
section
variable {w w' : World} {B B' g : Nat} {E : TypeId} {v1 v2 : Value} {xs ys : List Int}
theorem Pair.nil (w : World) (E : TypeId) (hB : B ≤ w.heap.size) : Pair w B E (.slice none 0 0) [] (.slice none 0 0) [] :=
  ⟨w.heap.size, w.heap.size, w.heap.size, w.heap.size, Own.nil _ _ _ _, Own.nil _ _ _ _, hB, hB, Nat.le_refl _, Nat.le_refl _, .inl (Nat.le_refl _)⟩
theorem Pair.below (h : Pair w B E v1 xs v2 ys) (hb : Below w.heap.size w w') : Pair w' B E v1 xs v2 ys := by
  obtain ⟨l1, h1, l2, h2, o1, o2, a, b, c, d, e⟩ := h
  have hs := hb.size
  exact ⟨l1, h1, l2, h2, o1.below hb c, o2.below hb d, a, b, by omega, by omega, e⟩
theorem Pair.lower (h : Pair w B E v1 xs v2 ys) (hB : B' ≤ B) : Pair w B' E v1 xs v2 ys := by
  obtain ⟨l1, h1, l2, h2, o1, o2, a, b, r⟩ := h
  exact ⟨l1, h1, l2, h2, o1, o2, by omega, by omega, r⟩
theorem Pair.form (h : Pair w B E v1 xs v2 ys) : ∃ A1 c1 A2 c2, v1 = .slice A1 xs.length c1 ∧ v2 = .slice A2 ys.length c2 := by
  obtain ⟨l1, h1, l2, h2, o1, o2, _⟩ := h
  obtain ⟨A1, c1, e1⟩ := o1.form
  obtain ⟨A2, c2, e2⟩ := o2.form
  exact ⟨A1, c1, A2, c2, e1, e2⟩
theorem Pair.rd {A1 A2 : Option Addr} {c1 c2 n1 n2 : Nat} (h : Pair w B E (.slice A1 n1 c1) xs (.slice A2 n2 c2) ys) : Rd w w.heap.size A1 (iv xs) ∧ Rd w w.heap.size A2 (iv ys) := by
  obtain ⟨l1, h1, l2, h2, o1, o2, _⟩ := h
  have e1 : n1 = xs.length := by obtain ⟨_, _, e⟩ := o1.form; injection e
  have e2 : n2 = ys.length := by obtain ⟨_, _, e⟩ := o2.form; injection e
  subst e1; subst e2
  exact ⟨o1.rd, o2.rd⟩
theorem Pair.of (o1 : Own w B B' E v1 xs.length (iv xs)) (o2 : Own w' w.heap.size w'.heap.size E v2 ys.length (iv ys)) (hb : Below w.heap.size w w') (hB : B' ≤ w.heap.size) (hs : B ≤ w.heap.size) : Pair w' B E v1 xs v2 ys := by
  have := hb.size
  exact ⟨B, B', w.heap.size, w'.heap.size, o1.below hb hB, o2, Nat.le_refl _, hs, by omega, Nat.le_refl _, .inl hB⟩
theorem Pair.setv3 (h : Pair w B E v1 xs v2 ys) (hg : g < B) (x y z : Value) : Pair (((w.setCell ⟨g, 0, none⟩ x).setCell ⟨g, 1, none⟩ y).setCell ⟨g, 2, none⟩ z) B E v1 xs v2 ys := by
  obtain ⟨l1, h1, l2, h2, o1, o2, a, b, c, d, e⟩ := h
  exact ⟨l1, h1, l2, h2, o1.setv3 (.inl (by omega)) x y z, o2.setv3 (.inl (by omega)) x y z, a, b, by rw [setCell3_size]; exact c, by rw [setCell3_size]; exact d, e⟩
end
/-- a result of three cells, stored into its variable: the block, the two lists, the rest -/
theorem ret_rat {w W : World} {g B : Nat} {E F : TypeId} {a b c v d : Value} {x : Bool} {xs ds : List Int} (k : Box W g E #[a, b, c]) (o : Pair W B F v xs d ds) (hb : Below w.heap.size w W) (hg : w.heap.size ≤ g) (hB : g < B) :
    Box (((W.setCell ⟨g, 0, none⟩ (.bool x)).setCell ⟨g, 1, none⟩ v).setCell ⟨g, 2, none⟩ d) g E #[.bool x, v, d] ∧ Pair (((W.setCell ⟨g, 0, none⟩ (.bool x)).setCell ⟨g, 1, none⟩ v).setCell ⟨g, 2, none⟩ d) w.heap.size F v xs d ds ∧ Below w.heap.size w (((W.setCell ⟨g, 0, none⟩ (.bool x)).setCell ⟨g, 1, none⟩ v).setCell ⟨g, 2, none⟩ d) :=
  ⟨k.set3 _ v d, (o.setv3 hB _ v d).lower (by omega), below_set3 hb hg _ _ _⟩
/-- the same where nothing is kept -/
theorem ret_rat0 {w W : World} {g : Nat} {E F : TypeId} {a b c : Value} (k : Box W g E #[a, b, c]) (hb : Below w.heap.size w W) (hg : w.heap.size ≤ g) :
    Box (((W.setCell ⟨g, 0, none⟩ (.bool false)).setCell ⟨g, 1, none⟩ (.slice none 0 0)).setCell ⟨g, 2, none⟩ (.slice none 0 0)) g E #[.bool false, .slice none 0 0, .slice none 0 0] ∧ Pair (((W.setCell ⟨g, 0, none⟩ (.bool false)).setCell ⟨g, 1, none⟩ (.slice none 0 0)).setCell ⟨g, 2, none⟩ (.slice none 0 0)) w.heap.size F (.slice none 0 0) [] (.slice none 0 0) [] ∧ Below w.heap.size w (((W.setCell ⟨g, 0, none⟩ (.bool false)).setCell ⟨g, 1, none⟩ (.slice none 0 0)).setCell ⟨g, 2, none⟩ (.slice none 0 0)) :=
  ⟨k.set3 _ _ _, Pair.nil _ _ (below_set3 hb hg _ _ _).size, below_set3 hb hg _ _ _⟩
theorem pair_rdI {w : World} {lo n : Nat} {A : Option Addr} {xs : List Int} (h : Rd w lo A (iv xs)) (hn : xs.length = n) (hl : n ≤ 1048576) (hw : Limbs xs) : RdI w lo A n xs :=
  ⟨hn, h, hl, fun d hd => by have := hw d hd; have h1 : IntKind.i64.min = -9223372036854775808 := rfl; have h2 : IntKind.i64.max = 9223372036854775807 := rfl; simp only [Lit.wf, Bool.and_eq_true, decide_eq_true_eq]; omega⟩
theorem pair_up {w : World} {B B' n : Nat} {A : Option Addr} {xs : List Int} (h : RdI w B A n xs) (hB : B ≤ B') : RdI w B' A n xs := ⟨h.1, h.2.1.wider hB, h.2.2⟩
/-- a fraction handed back: its sign, its two lists, in memory of the call's own -/
def RatRes (TI : TypeId) (w w' : World) (e : Ending) (Z : (Bool × List Int) × List Int) : Prop :=
  ∃ v d, e = .returned (.agg #[.bool Z.1.1, v, d]) ∧ Pair w' w.heap.size TI v Z.1.2 d Z.2 ∧ Below w.heap.size w w'
theorem Try.sizeRat : (Try.prog.info? 32).map (·.size) = some 3 := by kernel_rfl
end Go.Proofs.Ytdcceppednngjab

/-
  Long division, as mathematics. Of no program.
-/

namespace Go.Proofs.Ytdcceppednngjab
open Go.RowKit
set_option linter.unusedVariables false

/-- the quotient's limbs so far (those from place k on), and the remainder behind them -/
structure DivS (xs done : List Int) (d r : Int) (k : Nat) : Prop where
  len : done.length = xs.length - k
  ok : Limbs done
  v : val (xs.drop k) = d * val done + r
  r0 : 0 ≤ r
  r1 : r < d
theorem DivS.start (xs : List Int) {d : Int} (hd : 0 < d) : DivS xs [] d 0 xs.length :=
  ⟨by simp, Limbs.nil, by rw [List.drop_of_length_le (Nat.le_refl _)]; simp [val], Int.le_refl _, hd⟩
theorem DivS.small {xs done : List Int} {d r : Int} {j : Nat} (h : DivS xs done d r (j + 1)) (hx : Limbs xs) (hj : j < xs.length) : 0 ≤ r * 1000000000 + xs[j] ∧ r * 1000000000 + xs[j] < d * 1000000000 := by
  have := hx xs[j] (List.getElem_mem _)
  have h0 := h.r0
  have h1 := h.r1
  omega
theorem DivS.next {xs done : List Int} {d r q r' : Int} {j : Nat} (h : DivS xs done d r (j + 1)) (hx : Limbs xs) (hj : j < xs.length) (hq : r * 1000000000 + xs[j] = d * q + r') (h0 : 0 ≤ r') (h1 : r' < d) : DivS xs (q :: done) d r' j := by
  obtain ⟨s0, s1⟩ := h.small hx hj
  have hd : 0 < d := by omega
  have hv := val_drop hj
  refine ⟨by rw [List.length_cons, h.len]; omega, Limbs.mk ⟨?_, ?_⟩ h.ok, ?_, h0, h1⟩
  · rcases Int.lt_or_le q 0 with hn | hn
    · have := Int.mul_le_mul_of_nonneg_left (show q ≤ -1 by omega) (Int.le_of_lt hd)
      omega
    · exact hn
  · rcases Int.lt_or_le 999999999 q with hn | hn
    · have := Int.mul_le_mul_of_nonneg_left (show 1000000000 ≤ q by omega) (Int.le_of_lt hd)
      omega
    · exact hn
  · have e : d * (1000000000 * val done) = 1000000000 * (d * val done) := by rw [Int.mul_left_comm]
    rw [hv, h.v, val, Int.mul_add d q, e]
    omega
theorem DivS.done {xs done : List Int} {d r : Int} (h : DivS xs done d r 0) : val done = val xs / d ∧ r = val xs % d := by
  have hv := h.v
  rw [List.drop_zero] at hv
  have h0 := h.r0
  have h1 := h.r1
  have hd : d ≠ 0 := by omega
  constructor
  · rw [hv, Int.add_comm, Int.add_mul_ediv_left _ _ hd, Int.ediv_eq_zero_of_lt h0 h1]; omega
  · rw [hv, Int.add_comm, Int.add_mul_emod_self_left, Int.emod_eq_of_lt h0 h1]
theorem DivS.q {xs done : List Int} {d r q r' : Int} {j : Nat} (h : DivS xs done d r (j + 1)) (hx : Limbs xs) (hj : j < xs.length) (hq : r * 1000000000 + xs[j] = d * q + r') (h0 : 0 ≤ r') (h1 : r' < d) : 0 ≤ q ∧ q ≤ 999999999 := (h.next hx hj hq h0 h1).ok.cons.1
/-- a row of zeros with the limbs done behind it, and the next limb -/
theorem zset (j : Nat) (q : Int) (done : List Int) : (List.replicate (j + 1) 0 ++ done).set j q = List.replicate j 0 ++ q :: done := by
  rw [List.replicate_succ', List.append_assoc, List.set_append_right _ _ (by simp)]
  simp
theorem quo_nat (a b : Nat) : ((a : Int) / (b : Int)).toNat = a / b := by rw [← Int.natCast_ediv]; rfl
theorem rem_nat (a b : Nat) : ((a : Int) % (b : Int)).toNat = a % b := by rw [← Int.natCast_emod]; rfl
theorem quoL_ok {a b : List Int} (ha : natB a = true) (hb : natB b = true) : limbs (val a / val b).toNat = quoL a b := by
  rw [quoL, ha, hb, ← natV_val ha, ← natV_val hb, quo_nat]; rfl
theorem remL_ok {a b : List Int} (ha : natB a = true) (hb : natB b = true) (h0 : b ≠ []) : limbs (val a % val b).toNat = remL a b := by
  have : b.isEmpty = false := by simpa using h0
  rw [remL, ha, hb, this, ← natV_val ha, ← natV_val hb, rem_nat]; rfl
theorem quoL_nil {a b : List Int} (h : natB a = false ∨ natB b = false ∨ b = []) : quoL a b = [] := by
  rcases h with h | h | h
  · rw [quoL, h]; rfl
  · rw [quoL, h]; simp
  · subst h
    rw [quoL]
    split
    · simp [natV, val, limbs_zero]
    · rfl
theorem remL_nil {a b : List Int} (h : natB a = false ∨ natB b = false ∨ b = []) : remL a b = [] := by
  rcases h with h | h | h
  · rw [remL, h]; rfl
  · rw [remL, h]; simp
  · subst h; rw [remL]; simp
theorem val_pos {l : List Int} (h : Canon l) (h0 : l ≠ []) : 0 < val l := by
  have h1 := val_ge_canon h (List.length_pos_iff.2 h0)
  have := pow_pos' (l.length - 1)
  omega
end Go.Proofs.Ytdcceppednngjab

/-
  append of a list to an empty slice of the call's own, as a step of a region that draws its order: where the result lies, and that nothing else has turned.
-/




namespace Go.Proofs.Ytdcceppednngjab
open Go.RowKit
set_option linter.unusedVariables false

/-- two lists of the call's own, from block B on -/
def Both (w' : World) (B : Nat) (E : TypeId) (v1 : Value) (xs : List Int) (v2 : Value) (ys : List Int) : Prop :=
  Own w' B w'.heap.size E v1 xs.length (iv xs) ∧ Own w' B w'.heap.size E v2 ys.length (iv ys)
end Go.Proofs.Ytdcceppednngjab

/-
  Lehmer's way to the greatest common divisor, as mathematics. Of no program.
-/

namespace Go.Proofs.Ytdcceppednngjab
open Go.RowKit
set_option linter.unusedVariables false

theorem gcd_unimod {a b A1 A2 : Nat} {a1 b1 a2 b2 : Int} (e1 : (A1 : Int) = a1 * a + b1 * b) (e2 : (A2 : Int) = a2 * a + b2 * b) (hd : a1 * b2 - a2 * b1 = 1 ∨ a1 * b2 - a2 * b1 = -1) : Nat.gcd A1 A2 = Nat.gcd a b := by
  have f1 : b2 * (A1 : Int) - b1 * A2 = (a1 * b2 - a2 * b1) * a := by
    rw [e1, e2, Int.sub_mul, Int.mul_add, Int.mul_add, Int.mul_comm a1 b2, Int.mul_comm a2 b1, Int.mul_assoc, Int.mul_assoc, ← Int.mul_assoc b2 b1, ← Int.mul_assoc b1 b2, Int.mul_comm b1 b2]
    omega
  have f2 : a1 * (A2 : Int) - a2 * A1 = (a1 * b2 - a2 * b1) * b := by
    rw [e1, e2, Int.sub_mul, Int.mul_add, Int.mul_add, ← Int.mul_assoc a1 a2, ← Int.mul_assoc a2 a1, Int.mul_comm a2 a1, ← Int.mul_assoc, ← Int.mul_assoc]
    omega
  have up : ∀ d : Nat, d ∣ a → d ∣ b → d ∣ A1 ∧ d ∣ A2 := fun d ha hb => by
    have ha' := Int.natCast_dvd_natCast.2 ha
    have hb' := Int.natCast_dvd_natCast.2 hb
    constructor
    · apply Int.natCast_dvd_natCast.1
      rw [e1]; exact Int.dvd_add (Int.dvd_trans ha' (Int.dvd_mul_left _ _)) (Int.dvd_trans hb' (Int.dvd_mul_left _ _))
    · apply Int.natCast_dvd_natCast.1
      rw [e2]; exact Int.dvd_add (Int.dvd_trans ha' (Int.dvd_mul_left _ _)) (Int.dvd_trans hb' (Int.dvd_mul_left _ _))
  have down : ∀ d : Nat, d ∣ A1 → d ∣ A2 → d ∣ a ∧ d ∣ b := fun d h1 h2 => by
    have h1' := Int.natCast_dvd_natCast.2 h1
    have h2' := Int.natCast_dvd_natCast.2 h2
    have g1 : (d : Int) ∣ (a1 * b2 - a2 * b1) * a := by
      rw [← f1]; exact Int.dvd_sub (Int.dvd_trans h1' (Int.dvd_mul_left _ _)) (Int.dvd_trans h2' (Int.dvd_mul_left _ _))
    have g2 : (d : Int) ∣ (a1 * b2 - a2 * b1) * b := by
      rw [← f2]; exact Int.dvd_sub (Int.dvd_trans h2' (Int.dvd_mul_left _ _)) (Int.dvd_trans h1' (Int.dvd_mul_left _ _))
    rcases hd with hd | hd
    · rw [hd, Int.one_mul] at g1 g2
      exact ⟨Int.natCast_dvd_natCast.1 g1, Int.natCast_dvd_natCast.1 g2⟩
    · rw [hd, Int.neg_mul, Int.one_mul, Int.dvd_neg] at g1 g2
      exact ⟨Int.natCast_dvd_natCast.1 g1, Int.natCast_dvd_natCast.1 g2⟩
  apply Nat.dvd_antisymm
  · obtain ⟨h1, h2⟩ := down _ (Nat.gcd_dvd_left A1 A2) (Nat.gcd_dvd_right A1 A2)
    exact Nat.dvd_gcd h1 h2
  · obtain ⟨h1, h2⟩ := up _ (Nat.gcd_dvd_left a b) (Nat.gcd_dvd_right a b)
    exact Nat.dvd_gcd h1 h2

/-- signs and determinant: they alternate -/
def Sg (a1 b1 a2 b2 : Int) : Prop := (0 ≤ a1 ∧ b1 ≤ 0 ∧ a2 ≤ 0 ∧ 0 ≤ b2 ∧ a1 * b2 - a2 * b1 = 1) ∨ (a1 ≤ 0 ∧ 0 ≤ b1 ∧ 0 ≤ a2 ∧ b2 ≤ 0 ∧ a1 * b2 - a2 * b1 = -1)
/-- at least one step is done -/
structure Going (x y a1 b1 a2 b2 : Int) : Prop where
  a0 : 0 ≤ y + a2
  a1' : y + a2 < x + a1
  b0 : 0 ≤ y + b2
  b1' : y + b2 < x + b1
  n1 : b1 ≠ 0
  n2 : b2 ≠ 0
structure Cof (X Y x y a1 b1 a2 b2 : Int) : Prop where
  ex : x = a1 * X + b1 * Y
  ey : y = a2 * X + b2 * Y
  sg : Sg a1 b1 a2 b2
  st : (x = X ∧ y = Y ∧ a1 = 1 ∧ b1 = 0 ∧ a2 = 0 ∧ b2 = 1) ∨ (Going x y a1 b1 a2 b2 ∧ ∀ K α β : Int, 0 ≤ α → α < K → 0 ≤ β → β < K → a1 * (X * K + α) + b1 * (Y * K + β) ≤ Y * K + β)
  c1 : -1000000000 ≤ a1 ∧ a1 ≤ 1000000000 ∧ -1000000000 ≤ b1 ∧ b1 ≤ 1000000000
theorem Cof.start (X Y : Int) : Cof X Y X Y 1 0 0 1 := ⟨by omega, by omega, .inl (by omega), .inl ⟨rfl, rfl, rfl, rfl, rfl, rfl⟩, by omega⟩
theorem sq_bound {u v : Int} (h0 : 0 ≤ u) (h1 : u ≤ v) (h2 : u * v < 1000000000000000000) : u ≤ 1000000000 := by
  rcases Int.lt_or_le 1000000000 u with h | h
  · have a := Int.mul_le_mul_of_nonneg_right (show 1000000000 ≤ u by omega) (show 0 ≤ v by omega)
    omega
  · exact h
theorem Going.signs {x y a1 b1 a2 b2 : Int} (h : Going x y a1 b1 a2 b2) (s : Sg a1 b1 a2 b2) : 0 ≤ y ∧ y < x := by
  obtain ⟨h1, h2, h3, h4, _, _⟩ := h
  rcases s with ⟨s1, s2, s3, s4, _⟩ | ⟨s1, s2, s3, s4, _⟩ <;> omega
/-- the two numbers, told by the later ones -/
theorem Cof.back {X Y x y a1 b1 a2 b2 : Int} (h : Cof X Y x y a1 b1 a2 b2) : b2 * x - b1 * y = (a1 * b2 - a2 * b1) * X ∧ a1 * y - a2 * x = (a1 * b2 - a2 * b1) * Y := by
  rw [h.ex, h.ey]
  constructor
  · rw [Int.sub_mul, Int.mul_add, Int.mul_add, Int.mul_comm a1 b2, Int.mul_comm a2 b1, Int.mul_assoc, Int.mul_assoc, ← Int.mul_assoc b2 b1, ← Int.mul_assoc b1 b2, Int.mul_comm b1 b2]
    omega
  · rw [Int.sub_mul, Int.mul_add, Int.mul_add, ← Int.mul_assoc a1 a2, ← Int.mul_assoc a2 a1, Int.mul_comm a2 a1, ← Int.mul_assoc, ← Int.mul_assoc]
    omega
theorem Cof.c2 {X Y x y a1 b1 a2 b2 : Int} (h : Cof X Y x y a1 b1 a2 b2) (hX : X < 1000000000000000000) (hY : Y ≤ X) : -1000000000 ≤ a2 ∧ a2 ≤ 1000000000 ∧ -1000000000 ≤ b2 ∧ b2 ≤ 1000000000 := by
  rcases h.st with ⟨_, _, _, _, e3, e4⟩ | ⟨g, _⟩
  · omega
  · obtain ⟨k1, k2⟩ := h.back
    obtain ⟨y0, yx⟩ := g.signs h.sg
    obtain ⟨h1, h2, h3, h4, _, _⟩ := g
    rcases h.sg with ⟨s1, s2, s3, s4, dt⟩ | ⟨s1, s2, s3, s4, dt⟩
    · rw [dt, Int.one_mul] at k1 k2
      have p1 : b1 * y ≤ 0 := Int.mul_nonpos_of_nonpos_of_nonneg s2 y0
      have p2 : 0 ≤ a1 * y := Int.mul_nonneg s1 y0
      have q1 : b2 ≤ 1000000000 := sq_bound (v := x) s4 (by omega) (by omega)
      have e : -a2 * x = -(a2 * x) := Int.neg_mul ..
      have q2 : -a2 ≤ 1000000000 := sq_bound (v := x) (by omega) (by omega) (by omega)
      omega
    · rw [dt, Int.neg_mul, Int.one_mul] at k1 k2
      have p1 : 0 ≤ b1 * y := Int.mul_nonneg s2 y0
      have p2 : a1 * y ≤ 0 := Int.mul_nonpos_of_nonpos_of_nonneg s1 y0
      have e : -b2 * x = -(b2 * x) := Int.neg_mul ..
      have q1 : -b2 ≤ 1000000000 := sq_bound (v := x) (by omega) (by omega) (by omega)
      have q2 : a2 ≤ 1000000000 := sq_bound (v := x) s3 (by omega) (by omega)
      omega
/-- what the later numbers are behind the leading limbs -/
theorem Going.behind {x y a1 b1 a2 b2 K α β : Int} (g : Going x y a1 b1 a2 b2) (s : Sg a1 b1 a2 b2) (h0 : 0 ≤ α) (h1 : α < K) (h2 : 0 ≤ β) (h3 : β < K) : 0 ≤ y * K + a2 * α + b2 * β ∧ y * K + a2 * α + b2 * β < x * K + a1 * α + b1 * β := by
  obtain ⟨g1, g2, g3, g4, _, _⟩ := g
  have hK : 0 < K := by omega
  rcases s with ⟨s1, s2, s3, s4, _⟩ | ⟨s1, s2, s3, s4, _⟩
  · constructor
    · have p1 : a2 * K ≤ a2 * α := Int.mul_le_mul_of_nonpos_left s3 (by omega)
      have p2 : 0 ≤ b2 * β := Int.mul_nonneg s4 h2
      have p3 : 0 ≤ (y + a2) * K := Int.mul_nonneg g1 (by omega)
      rw [Int.add_mul] at p3
      omega
    · have p1 : (b1 - b2) * K ≤ (b1 - b2) * β := Int.mul_le_mul_of_nonpos_left (by omega) (by omega)
      have p2 : 0 ≤ (a1 - a2) * α := Int.mul_nonneg (by omega) h0
      have p3 : 0 < (x - y + (b1 - b2)) * K := Int.mul_pos (by omega) hK
      rw [Int.add_mul, Int.sub_mul x y] at p3
      rw [Int.sub_mul b1 b2 β] at p1
      rw [Int.sub_mul] at p2
      omega
  · constructor
    · have p1 : b2 * K ≤ b2 * β := Int.mul_le_mul_of_nonpos_left s4 (by omega)
      have p2 : 0 ≤ a2 * α := Int.mul_nonneg s3 h0
      have p3 : 0 ≤ (y + b2) * K := Int.mul_nonneg g3 (by omega)
      rw [Int.add_mul] at p3
      omega
    · have p1 : (a1 - a2) * K ≤ (a1 - a2) * α := Int.mul_le_mul_of_nonpos_left (by omega) (by omega)
      have p2 : 0 ≤ (b1 - b2) * β := Int.mul_nonneg (by omega) h2
      have p3 : 0 < (x - y + (a1 - a2)) * K := Int.mul_pos (by omega) hK
      rw [Int.add_mul, Int.sub_mul x y] at p3
      rw [Int.sub_mul a1 a2 α] at p1
      rw [Int.sub_mul] at p2
      omega
theorem comb_eq (a b X Y K α β : Int) : a * (X * K + α) + b * (Y * K + β) = (a * X + b * Y) * K + a * α + b * β := by
  rw [Int.mul_add, Int.mul_add, Int.add_mul, Int.mul_assoc, Int.mul_assoc]; omega

theorem Cof.nonneg {X Y x y a1 b1 a2 b2 : Int} (h : Cof X Y x y a1 b1 a2 b2) (h0 : 0 ≤ Y) : 0 ≤ y + a2 ∧ 0 ≤ y + b2 ∧ 0 ≤ y ∧ 0 ≤ x + a1 ∧ 0 ≤ x + b1 ∨ X < Y := by
  rcases h.st with ⟨e1, e2, e3, e4, e5, e6⟩ | ⟨g, _⟩
  · rcases Int.lt_or_le X Y with h' | h'
    · exact .inr h'
    · exact .inl (by omega)
  · obtain ⟨y0, yx⟩ := g.signs h.sg
    obtain ⟨g1, g2, g3, g4, _, _⟩ := g
    exact .inl (by omega)
/-- one step of Euclid's, sure behind the leading limbs -/
theorem Cof.next {X Y x y a1 b1 a2 b2 q : Int} (h : Cof X Y x y a1 b1 a2 b2) (hX : X < 1000000000000000000) (hY : Y ≤ X) (hY0 : 0 ≤ Y) (hp1 : 0 < y + a2) (hp2 : 0 < y + b2) (hq1 : (x + a1) / (y + a2) = q) (hq2 : (x + b1) / (y + b2) = q) :
    Cof X Y y (x - q * y) a2 b2 (a1 - q * a2) (b1 - q * b2) ∧ 0 ≤ x - q * y ∧ x - q * y < y ∧ -2000000000 ≤ q * a2 ∧ q * a2 ≤ 2000000000 ∧ -2000000000 ≤ q * b2 ∧ q * b2 ≤ 2000000000 ∧ 0 ≤ q * y ∧ q * y ≤ x := by
  have d1 := Int.mul_ediv_add_emod (x + a1) (y + a2)
  have m1 := Int.emod_nonneg (x + a1) (show y + a2 ≠ 0 by omega)
  have m2 := Int.emod_lt_of_pos (x + a1) hp1
  have d2 := Int.mul_ediv_add_emod (x + b1) (y + b2)
  have m3 := Int.emod_nonneg (x + b1) (show y + b2 ≠ 0 by omega)
  have m4 := Int.emod_lt_of_pos (x + b1) hp2
  rw [hq1, Int.mul_comm, Int.mul_add] at d1
  rw [hq2, Int.mul_comm, Int.mul_add] at d2
  generalize (x + a1) % (y + a2) = r1 at *
  generalize (x + b1) % (y + b2) = r2 at *
  have hc2 := h.c2 hX hY
  have hq : 1 ≤ q := by
    rw [← hq1]
    refine (Int.le_ediv_iff_mul_le hp1).2 ?_
    rcases h.st with ⟨e1, e2, e3, e4, e5, e6⟩ | ⟨g, _⟩
    · omega
    · have := g.a1'; omega
  have hsg : Sg a2 b2 (a1 - q * a2) (b1 - q * b2) := by
    have dt : a2 * (b1 - q * b2) - (a1 - q * a2) * b2 = -(a1 * b2 - a2 * b1) := by
      rw [Int.mul_sub, Int.sub_mul, Int.mul_assoc q a2 b2, Int.mul_left_comm a2 q b2]; omega
    rcases h.sg with ⟨s1, s2, s3, s4, e⟩ | ⟨s1, s2, s3, s4, e⟩
    · have p1 : q * a2 ≤ 0 := Int.mul_nonpos_of_nonneg_of_nonpos (by omega) s3
      have p2 : 0 ≤ q * b2 := Int.mul_nonneg (by omega) s4
      exact .inr ⟨s3, s4, by omega, by omega, by rw [dt, e]⟩
    · have p1 : 0 ≤ q * a2 := Int.mul_nonneg (by omega) s3
      have p2 : q * b2 ≤ 0 := Int.mul_nonpos_of_nonneg_of_nonpos (by omega) s4
      exact .inl ⟨s3, s4, by omega, by omega, by rw [dt, e]; rfl⟩
  have hb2 : b2 ≠ 0 := by
    rcases h.st with ⟨e1, e2, e3, e4, e5, e6⟩ | ⟨g, _⟩
    · omega
    · exact g.n2
  have hn2 : b1 - q * b2 ≠ 0 := by
    rcases h.sg with ⟨s1, s2, s3, s4, e⟩ | ⟨s1, s2, s3, s4, e⟩
    · have : 1 * b2 ≤ q * b2 := Int.mul_le_mul_of_nonneg_right hq s4
      omega
    · have : q * b2 ≤ 1 * b2 := Int.mul_le_mul_of_nonpos_right hq s4
      omega
  have hgo : Going y (x - q * y) a2 b2 (a1 - q * a2) (b1 - q * b2) := ⟨by omega, by omega, by omega, by omega, hb2, hn2⟩
  have hcof : Cof X Y y (x - q * y) a2 b2 (a1 - q * a2) (b1 - q * b2) := by
    refine ⟨h.ey, ?_, hsg, .inr ⟨hgo, fun K α β h0 h1 h2 h3 => ?_⟩, hc2⟩
    · rw [h.ex, h.ey, Int.mul_add, Int.sub_mul, Int.sub_mul, Int.mul_assoc, Int.mul_assoc]; omega
    · rw [comb_eq, ← h.ey]
      rcases h.st with ⟨e1, e2, e3, e4, e5, e6⟩ | ⟨g, hle⟩
      · subst e1 e2 e5 e6; omega
      · have := (g.behind h.sg h0 h1 h2 h3).2
        have h5 := hle K α β h0 h1 h2 h3
        rw [comb_eq, ← h.ex] at h5
        omega
  obtain ⟨y0, yx⟩ := hgo.signs hsg
  have hc3 := hcof.c2 hX hY
  have hc1 := h.c1
  have hyy : 0 ≤ y := by omega
  have hqy : 0 ≤ q * y := Int.mul_nonneg (by omega) hyy
  exact ⟨hcof, y0, yx, by omega, by omega, by omega, by omega, hqy, by omega⟩
/-- what the cofactors give, used on the numbers themselves -/
theorem Cof.use {X Y x y a1 b1 a2 b2 : Int} (h : Cof X Y x y a1 b1 a2 b2) (hn : b1 ≠ 0) {a b : Nat} {K α β : Int} (ha : (a : Int) = X * K + α) (hb : (b : Int) = Y * K + β) (h0 : 0 ≤ α) (h1 : α < K) (h2 : 0 ≤ β) (h3 : β < K) :
    ∃ A1 A2 : Nat, (A1 : Int) = a1 * a + b1 * b ∧ (A2 : Int) = a2 * a + b2 * b ∧ Nat.gcd A1 A2 = Nat.gcd a b ∧ A2 < A1 ∧ A1 ≤ b := by
  rcases h.st with ⟨e1, e2, e3, e4, e5, e6⟩ | ⟨g, hle⟩
  · exact absurd e4 hn
  · obtain ⟨k1, k2⟩ := g.behind h.sg h0 h1 h2 h3
    have h5 := hle K α β h0 h1 h2 h3
    have q1 := comb_eq a1 b1 X Y K α β
    have q2 := comb_eq a2 b2 X Y K α β
    rw [← h.ex, ← ha, ← hb] at q1
    rw [← h.ey, ← ha, ← hb] at q2
    rw [← ha, ← hb] at h5
    refine ⟨(a1 * a + b1 * b).toNat, (a2 * a + b2 * b).toNat, by omega, by omega, gcd_unimod (a1 := a1) (b1 := b1) (a2 := a2) (b2 := b2) (by omega) (by omega) ?_, by omega, by omega⟩
    rcases h.sg with ⟨_, _, _, _, dt⟩ | ⟨_, _, _, _, dt⟩
    · exact .inl dt
    · exact .inr dt
theorem Cof.xle {X Y x y a1 b1 a2 b2 : Int} (h : Cof X Y x y a1 b1 a2 b2) (hY : Y ≤ X) : x ≤ X ∧ y ≤ X := by
  rcases h.st with ⟨e1, e2, _⟩ | ⟨g, _⟩
  · omega
  · obtain ⟨k1, k2⟩ := h.back
    obtain ⟨y0, yx⟩ := g.signs h.sg
    have n2 := g.n2
    suffices x ≤ X by omega
    rcases h.sg with ⟨s1, s2, s3, s4, dt⟩ | ⟨s1, s2, s3, s4, dt⟩
    · rw [dt, Int.one_mul] at k1
      have p1 : b1 * y ≤ 0 := Int.mul_nonpos_of_nonpos_of_nonneg s2 y0
      have p2 : 1 * x ≤ b2 * x := Int.mul_le_mul_of_nonneg_right (by omega) (by omega)
      omega
    · rw [dt, Int.neg_mul, Int.one_mul] at k1
      have p1 : 0 ≤ b1 * y := Int.mul_nonneg s2 y0
      have p2 : b2 * x ≤ -1 * x := Int.mul_le_mul_of_nonneg_right (by omega) (by omega)
      omega
end Go.Proofs.Ytdcceppednngjab
