/-
  A range over the sums of two lists of corners: what a round keeps, an append that leaves variables of two cells alone, the iterator's contract.
-/
import Derived.RangeFuncNested
import Derived.RangeFuncBound
import Derived.RangeFuncCalls
import Derived.RangeFuncLeaves
import Derived.Shelf.Abstract
import Derived.WalkKit
import Derived.OwnWalkIn
import Derived.TacticsInMore
import Derived.LoopNIn
import Derived.LoopIn
import Derived.ArgAppend
import Derived.Test.YtdagomikjblgiaaMinI4
namespace Go.Proofs.Ytdagomikjblgiaa
open Go.RowKit
set_option linter.unusedVariables false
/-- blocks of two cells of a type stay as they are -/
def Keep2 (E : TypeId) (W W' : World) : Prop := ∀ (g : Nat) (cs : Array Value), W.heap[g]? = some (.cells cs E (0, 0)) → cs.size = 2 → W'.heap[g]? = some (.cells cs E (0, 0))
/-- two variables of another type stay as they are -/
def KeepB (T : TypeId) (B1 B2 : Nat) (W W' : World) : Prop := ∀ (g : Nat) (cs : Array Value), g = B1 ∨ g = B2 → W.heap[g]? = some (.cells cs T (0, 0)) → W'.heap[g]? = some (.cells cs T (0, 0))
def KpV (n0 : Nat) (E T : TypeId) (B1 B2 : Nat) (W W' : World) : Prop := Below n0 W W' ∧ Keep2 E W W' ∧ KeepB T B1 B2 W W'
section
variable {n0 : Nat} {E T : TypeId} {B1 B2 : Nat}
theorem kpV_t {A B C : World} (h : KpV n0 E T B1 B2 A B) (k : KpV n0 E T B1 B2 B C) : KpV n0 E T B1 B2 A C := ⟨h.1.trans k.1, fun g cs hg h2 => k.2.1 g cs (h.2.1 g cs hg h2) h2, fun g cs hg h2 => k.2.2 g cs hg (h.2.2 g cs hg h2)⟩
theorem kpV_b {w : World} (hn : n0 ≤ w.heap.size) (W : World) (l : Nat) (o o' : Obj) (hl : w.heap.size ≤ l) (h : W.heap[l]? = some o) (hc : o.isCells = false) (hw : o.isWalk = false) : KpV n0 E T B1 B2 W (W.putObj l o') := by
  have hk : ∀ (g : Nat) (cs : Array Value) (F : TypeId), W.heap[g]? = some (.cells cs F (0, 0)) → (W.putObj l o').heap[g]? = some (.cells cs F (0, 0)) := fun g cs F hg => by
    have hne : g ≠ l := by intro e; subst e; rw [h] at hg; cases hg; cases hc
    exact (World.putObj_heap_other hne).trans hg
  exact ⟨belowK_b hn W l o o' hl h hc hw, fun g cs hg _ => hk g cs _ hg, fun g cs _ hg => hk g cs _ hg⟩
theorem kpV_alloc {W : World} (hn : n0 ≤ W.heap.size) (o : Obj) : KpV n0 E T B1 B2 W (W.alloc o) := ⟨(Below.refl _ _).alloc hn o, fun g cs hg _ => heap_old hg, fun g cs _ hg => heap_old hg⟩
theorem kpV_set {W : World} {B : Nat} {u : Value} (h : Boxed W B T u) (hT : T ≠ E) (hn : n0 ≤ B) (h1 : B ≠ B1) (h2 : B ≠ B2) (v : Value) : KpV n0 E T B1 B2 W (W.setCell ⟨B, 0, none⟩ v) := by
  have hk : ∀ (g : Nat) (cs : Array Value) (F : TypeId), g ≠ B → W.heap[g]? = some (.cells cs F (0, 0)) → (W.setCell ⟨B, 0, none⟩ v).heap[g]? = some (.cells cs F (0, 0)) := fun g cs F hne hg =>
    ((grownBy_setCell' W B v).block g (Array.getElem?_eq_some_iff.1 hg).1 (fun e => hne (by cases e; rfl))).trans hg
  refine ⟨(Below.refl _ _).setCell (p := ⟨B, 0, none⟩) hn _, fun g cs hg _ => hk g cs _ ?_ hg, fun g cs hB hg => hk g cs _ (by rcases hB with rfl | rfl <;> omega) hg⟩
  intro e; subst e
  have h' : W.heap[g]? = some (.cells #[u] T (0, 0)) := h
  rw [h'] at hg; cases hg; exact hT rfl
/-- a row of the call's own changes: variables of another type don't -/
theorem kpV_row {W W' : World} {base : Nat} {v : Value} {k : Nat} {xs : List Value} (hr : W.ownsRow base E 2 v k xs) (hg : W.grownBy W' v.ownBlock) (hb : n0 ≤ base) (hn : n0 ≤ W.heap.size) (h2 : Keep2 E W W') (hT : T ≠ E) : KpV n0 E T B1 B2 W W' := by
  refine ⟨(Below.refl _ _).grown hg hn fun j ej => Nat.le_trans hb (hr.lt j ej).1, h2, fun g cs _ h => ?_⟩
  refine (hg.block g (Array.getElem?_eq_some_iff.1 h).1 fun e => ?_).trans h
  rcases hr.2 with ⟨rfl, _⟩ | ⟨g', cap, cur, rfl, _, hg', _⟩
  · simp [Value.ownBlock] at e
  · simp [Value.ownBlock] at e
    subst e
    rw [hg'] at h; cases h; exact hT rfl
theorem boxed_keep {W W' : World} {g : Nat} {u : Value} (h : KeepB T B1 B2 W W') (hB : g = B1 ∨ g = B2) (k : Boxed W g T u) : Boxed W' g T u := h g _ hB k
end
theorem box_keep {E : TypeId} {W W' : World} {g : Nat} {a b : Value} (h : Keep2 E W W') (k : Box W g E #[a, b]) : Box W' g E #[a, b] := h g _ k rfl
theorem grown_of_below {W W' : World} (h : Below W.heap.size W W') : W.grownBy W' none := ⟨h.os, h.tape, h.output, h.size, fun k hk _ => h.block k hk⟩
/-- one more element of two cells, appended to a list of the call's own: variables of two cells stay as they are -/
theorem run_append_two {P : Program} (w : World) (base : Nat) (t ty e : TypeId) (i : TypeInfo) (z : Value) (bytes : Nat) (ht : P.underlying t = some (.slice e)) (hi : P.info? e = some i) (hz : i.zero = some z)
    (hsize : i.size = 2) (hby : i.bytes = bytes) (hzs : z.cells.size = 2) (v : Value) (n : Nat) (xs : List Value) (hown : w.ownsRow base e 2 v n xs) (hv : n = 0 → ∃ o, v = .slice o 0 0)
    (a : Addr) (c : Nat) (news : List Value) (hl : news.length = 2) (hnews : ∀ j u, news[j]? = some u → w.cell? (a.add j) = some u) (h1 : ∀ u ∈ news, u.oneCell' = true)
    (h63 : n + 1 ≤ maxLen) (hbytes : (n + 1) * bytes ≤ 140737488355328) (hbase : base ≤ w.heap.size) :
    ∃ v' w', (Builtin.append_ #[t, t] ty #[v, .slice (some a) 1 c]).run P w = .ok v' w' ∧ w'.ownsRow base e 2 v' (n + 1) (xs ++ news) ∧ w.grownBy w' v.ownBlock ∧ Keep2 e w w' := by
  obtain ⟨v', w', hrun, r1, r2, r3⟩ := run_append_own (P := P) w base t ty e i z 2 bytes ht hi hz hsize hby hzs (by omega) v n xs hown a 1 c news (by omega) hnews h1 h63 hbytes hbase
  refine ⟨v', w', hrun, r1, r2, fun g cs hg h2 => ?_⟩
  have hlt : g < w.heap.size := (Array.getElem?_eq_some_iff.1 hg).1
  by_cases hne : some g ≠ v.ownBlock
  · exact (r2.block g hlt hne).trans hg
  · have hne : some g = v.ownBlock := Classical.not_not.1 hne
    rcases hown.2 with ⟨rfl, _⟩ | ⟨g', cap, cur, rfl, hb, hg', hnc, hcm, hs, ht'⟩
    · simp [Value.ownBlock] at hne
    · simp [Value.ownBlock] at hne
      subst hne
      rw [hg'] at hg
      cases hg
      have hn0 : n ≠ 0 := fun h => by obtain ⟨o, e⟩ := hv h; cases e; omega
      have hc1 : cap = 1 := by omega
      obtain ⟨v'', w'', hrun', q1, q2⟩ := run_append_arg_grows (P := P) w t ty e i z 2 bytes ht hi hz hsize hby hzs (by omega) ⟨g, 0, none⟩ n cap xs (by rw [hown.1]) (hown.cells (g := g) rfl) a 1 c news (by omega) hnews (by omega) h63 hbytes
      rw [hrun] at hrun'
      cases hrun'
      exact (q2.block g hlt (by simp)).trans hg'
theorem wpListIn_append_two {F : Fence} {n : Nat} {P : Program} (w : World) {ops : Array Oper} {rest : List Oper} {o : Oper} {a : Act} {Q : Exit → Act → World → Prop}
    (hg : o.guard = none) (s x : Operand) (t : TypeId) (hop : o.op = Op.call { callee := Callee.builtin Builtin.append, args := #[s, x], argTypes := #[t, t] })
    (base : Nat) (e : TypeId) (bytes : Nat) (T : SliceOf P t e 2 bytes)
    (v : Value) (k : Nat) (xs : List Value) (hs : a.eval s = v) (hown : w.ownsRow base e 2 v k xs) (hv : k = 0 → ∃ o, v = .slice o 0 0) (ad : Addr) (c : Nat) (news : List Value) (hx : a.eval x = .slice (some ad) 1 c) (hn : news.length = 2)
    (hc : ∀ j u, news[j]? = some u → w.cell? (ad.add j) = some u) (h1c : ∀ u ∈ news, u.oneCell' = true) (b1 : k + 1 ≤ maxLen) (b2 : (k + 1) * bytes ≤ 140737488355328) (b3 : base ≤ w.heap.size)
    (hK : ∀ v' w', w'.ownsRow base e 2 v' (k + 1) (xs ++ news) → w.grownBy w' v.ownBlock → Keep2 e w w' → wpListIn F n P ops Q rest (a.put o.dst v') w') :
    wpListIn F n P ops Q (o :: rest) a w := by
  obtain ⟨h1, i, z, h2, h3, h4, h5, h6, h7⟩ := T
  refine wpListIn_plain hg fun K hK' => ?_
  obtain ⟨v', w', hrun, r1, r2, r3⟩ := run_append_two (P := P) w base t o.type e i z bytes h1 h2 h3 h4 h5 h6 v k xs hown hv ad c news hn hc h1c b1 b2 b3
  unfold Oper.wpIn
  refine ⟨?_, ?_⟩
  · simp [Oper.about, hop, resolve, Target.leads, Sem.run_pure]
  · rw [Oper.semAt_plain F _ _ (by rw [hop]; intro c hc'; cases hc')]
    simp [execOp, hop, resolve, invoke, builtin, hs, hx, hrun, Result.andThen]
    exact hK' _ _ (hK v' w' r1 r2 r3)
theorem wpList_append_two {P : Program} (w : World) {ops : Array Oper} {rest : List Oper} {o : Oper} {a : Act} {Q : Exit → Act → World → Prop}
    (hg : o.guard = none) (s x : Operand) (t : TypeId) (hop : o.op = Op.call { callee := Callee.builtin Builtin.append, args := #[s, x], argTypes := #[t, t] })
    (base : Nat) (e : TypeId) (bytes : Nat) (T : SliceOf P t e 2 bytes)
    (v : Value) (k : Nat) (xs : List Value) (hs : a.eval s = v) (hown : w.ownsRow base e 2 v k xs) (hv : k = 0 → ∃ o, v = .slice o 0 0) (ad : Addr) (c : Nat) (news : List Value) (hx : a.eval x = .slice (some ad) 1 c) (hn : news.length = 2)
    (hc : ∀ j u, news[j]? = some u → w.cell? (ad.add j) = some u) (h1c : ∀ u ∈ news, u.oneCell' = true) (b1 : k + 1 ≤ maxLen) (b2 : (k + 1) * bytes ≤ 140737488355328) (b3 : base ≤ w.heap.size)
    (hK : ∀ v' w', w'.ownsRow base e 2 v' (k + 1) (xs ++ news) → w.grownBy w' v.ownBlock → Keep2 e w w' → wpList P ops Q rest (a.put o.dst v') w') :
    wpList P ops Q (o :: rest) a w := by
  obtain ⟨h1, i, z, h2, h3, h4, h5, h6, h7⟩ := T
  refine wpList_plain hg fun K hK' => ?_
  obtain ⟨v', w', hrun, r1, r2, r3⟩ := run_append_two (P := P) w base t o.type e i z bytes h1 h2 h3 h4 h5 h6 v k xs hown hv ad c news hn hc h1c b1 b2 b3
  unfold Oper.wp
  simp [execOp, hop, resolve, invoke, builtin, hs, hx, hrun, Result.andThen]
  exact hK' _ _ (hK v' w' r1 r2 r3)
theorem cells_new2 (W : World) (E : TypeId) (x y : Value) : ∀ j u, [x, y][j]? = some u → (W.alloc (.cells #[x, y] E)).cell? ((⟨W.heap.size, 0, none⟩ : Addr).add j) = some u := by
  intro j u hu
  have : (⟨W.heap.size, 0, none⟩ : Addr).add j = ⟨W.heap.size, j, none⟩ := by unfold Addr.add; split <;> simp_all
  rw [this, World.cell?_alloc_mark]
  simpa using hu
theorem box_grown {X Y : World} {row : Option Nat} {g : Nat} {E : TypeId} {cs : Array Value} (h : Box X g E cs) (hg : X.grownBy Y row) (hr : ∀ r, row = some r → ∃ o : Obj, X.heap[r]? = some o ∧ o.isCells = false) : Box Y g E cs := by
  refine (hg.block g h.lt fun e => ?_).trans h
  obtain ⟨o, ho, hc⟩ := hr g e.symm
  rw [show X.heap[g]? = _ from h] at ho; cases ho; cases hc
end Go.Proofs.Ytdagomikjblgiaa
