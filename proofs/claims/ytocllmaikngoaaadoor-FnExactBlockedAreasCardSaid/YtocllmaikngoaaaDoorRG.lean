/-
  The texts RngV, RngI, put together; each has its own heading below. No condition of ours.
-/
import Derived.RangeFuncNested
import Derived.RangeFuncBound
import Derived.RangeFuncCalls
import Derived.RangeFuncLeaves
import Derived.Shelf.Abstract
import Derived.WalkKit
import Derived.OwnWalkIn
import Derived.TacticsInMore
import Derived.LoopNIn
import Derived.LoopIn
import Derived.ArgAppend
import Derived.Test.YtocllmaikngoaaaDoorMinI4
/-
  A range over the sums of two lists of corners: what a round keeps, an append that leaves variables of two cells alone, the iterator's contract.
-/












namespace Go.Proofs.YtocllmaikngoaaaDoor
open Go.RowKit
set_option linter.unusedVariables false
/-- blocks of two cells of a type stay as they are -/
def Keep2 (E : TypeId) (W W' : World) : Prop := ∀ (g : Nat) (cs : Array Value), W.heap[g]? = some (.cells cs E (0, 0)) → cs.size = 2 → W'.heap[g]? = some (.cells cs E (0, 0))
/-- two variables of another type stay as they are -/
def KeepB (T : TypeId) (B1 B2 : Nat) (W W' : World) : Prop := ∀ (g : Nat) (cs : Array Value), g = B1 ∨ g = B2 → W.heap[g]? = some (.cells cs T (0, 0)) → W'.heap[g]? = some (.cells cs T (0, 0))
def KpV (n0 : Nat) (E T : TypeId) (B1 B2 : Nat) (W W' : World) : Prop := Below n0 W W' ∧ Keep2 E W W' ∧ KeepB T B1 B2 W W'
section
variable {n0 : Nat} {E T : TypeId} {B1 B2 : Nat}
theorem kpV_t {A B C : World} (h : KpV n0 E T B1 B2 A B) (k : KpV n0 E T B1 B2 B C) : KpV n0 E T B1 B2 A C := ⟨h.1.trans k.1, fun g cs hg h2 => k.2.1 g cs (h.2.1 g cs hg h2) h2, fun g cs hg h2 => k.2.2 g cs hg (h.2.2 g cs hg h2)⟩
theorem kpV_b {w : World} (hn : n0 ≤ w.heap.size) (W : World) (l : Nat) (o o' : Obj) (hl : w.heap.size ≤ l) (h : W.heap[l]? = some o) (hc : o.isCells = false) (hw : o.isWalk = false) : KpV n0 E T B1 B2 W (W.putObj l o') := by
  have hk : ∀ (g : Nat) (cs : Array Value) (F : TypeId), W.heap[g]? = some (.cells cs F (0, 0)) → (W.putObj l o').heap[g]? = some (.cells cs F (0, 0)) := fun g cs F hg => by
    have hne : g ≠ l := by intro e; subst e; rw [h] at hg; cases hg; cases hc
    exact (World.putObj_heap_other hne).trans hg
  exact ⟨belowK_b hn W l o o' hl h hc hw, fun g cs hg _ => hk g cs _ hg, fun g cs _ hg => hk g cs _ hg⟩
theorem kpV_alloc {W : World} (hn : n0 ≤ W.heap.size) (o : Obj) : KpV n0 E T B1 B2 W (W.alloc o) := ⟨(Below.refl _ _).alloc hn o, fun g cs hg _ => heap_old hg, fun g cs _ hg => heap_old hg⟩
theorem kpV_set {W : World} {B : Nat} {u : Value} (h : Boxed W B T u) (hT : T ≠ E) (hn : n0 ≤ B) (h1 : B ≠ B1) (h2 : B ≠ B2) (v : Value) : KpV n0 E T B1 B2 W (W.setCell ⟨B, 0, none⟩ v) := by
  have hk : ∀ (g : Nat) (cs : Array Value) (F : TypeId), g ≠ B → W.heap[g]? = some (.cells cs F (0, 0)) → (W.setCell ⟨B, 0, none⟩ v).heap[g]? = some (.cells cs F (0, 0)) := fun g cs F hne hg =>
    ((grownBy_setCell' W B v).block g (Array.getElem?_eq_some_iff.1 hg).1 (fun e => hne (by cases e; rfl))).trans hg
  refine ⟨(Below.refl _ _).setCell (p := ⟨B, 0, none⟩) hn _, fun g cs hg _ => hk g cs _ ?_ hg, fun g cs hB hg => hk g cs _ (by rcases hB with rfl | rfl <;> omega) hg⟩
  intro e; subst e
  have h' : W.heap[g]? = some (.cells #[u] T (0, 0)) := h
  rw [h'] at hg; cases hg; exact hT rfl
/-- a row of the call's own changes: variables of another type don't -/
theorem kpV_row {W W' : World} {base : Nat} {v : Value} {k : Nat} {xs : List Value} (hr : W.ownsRow base E 2 v k xs) (hg : W.grownBy W' v.ownBlock) (hb : n0 ≤ base) (hn : n0 ≤ W.heap.size) (h2 : Keep2 E W W') (hT : T ≠ E) : KpV n0 E T B1 B2 W W' := by
  refine ⟨(Below.refl _ _).grown hg hn fun j ej => Nat.le_trans hb (hr.lt j ej).1, h2, fun g cs _ h => ?_⟩
  refine (hg.block g (Array.getElem?_eq_some_iff.1 h).1 fun e => ?_).trans h
  rcases hr.2 with ⟨rfl, _⟩ | ⟨g', cap, cur, rfl, _, hg', _⟩
  · simp [Value.ownBlock] at e
  · simp [Value.ownBlock] at e
    subst e
    rw [hg'] at h; cases h; exact hT rfl
theorem boxed_keep {W W' : World} {g : Nat} {u : Value} (h : KeepB T B1 B2 W W') (hB : g = B1 ∨ g = B2) (k : Boxed W g T u) : Boxed W' g T u := h g _ hB k
end
theorem box_keep {E : TypeId} {W W' : World} {g : Nat} {a b : Value} (h : Keep2 E W W') (k : Box W g E #[a, b]) : Box W' g E #[a, b] := h g _ k rfl
theorem grown_of_below {W W' : World} (h : Below W.heap.size W W') : W.grownBy W' none := ⟨h.os, h.tape, h.output, h.size, fun k hk _ => h.block k hk⟩
/-- one more element of two cells, appended to a list of the call's own: variables of two cells stay as they are -/
theorem run_append_two {P : Program} (w : World) (base : Nat) (t ty e : TypeId) (i : TypeInfo) (z : Value) (bytes : Nat) (ht : P.underlying t = some (.slice e)) (hi : P.info? e = some i) (hz : i.zero = some z)
    (hsize : i.size = 2) (hby : i.bytes = bytes) (hzs : z.cells.size = 2) (v : Value) (n : Nat) (xs : List Value) (hown : w.ownsRow base e 2 v n xs) (hv : n = 0 → ∃ o, v = .slice o 0 0)
    (a : Addr) (c : Nat) (news : List Value) (hl : news.length = 2) (hnews : ∀ j u, news[j]? = some u → w.cell? (a.add j) = some u) (h1 : ∀ u ∈ news, u.oneCell' = true)
    (h63 : n + 1 ≤ maxLen) (hbytes : (n + 1) * bytes ≤ 140737488355328) (hbase : base ≤ w.heap.size) :
    ∃ v' w', (Builtin.append_ #[t, t] ty #[v, .slice (some a) 1 c]).run P w = .ok v' w' ∧ w'.ownsRow base e 2 v' (n + 1) (xs ++ news) ∧ w.grownBy w' v.ownBlock ∧ Keep2 e w w' := by
  obtain ⟨v', w', hrun, r1, r2, r3⟩ := run_append_own (P := P) w base t ty e i z 2 bytes ht hi hz hsize hby hzs (by omega) v n xs hown a 1 c news (by omega) hnews h1 h63 hbytes hbase
  refine ⟨v', w', hrun, r1, r2, fun g cs hg h2 => ?_⟩
  have hlt : g < w.heap.size := (Array.getElem?_eq_some_iff.1 hg).1
  by_cases hne : some g ≠ v.ownBlock
  · exact (r2.block g hlt hne).trans hg
  · have hne : some g = v.ownBlock := Classical.not_not.1 hne
    rcases hown.2 with ⟨rfl, _⟩ | ⟨g', cap, cur, rfl, hb, hg', hnc, hcm, hs, ht'⟩
    · simp [Value.ownBlock] at hne
    · simp [Value.ownBlock] at hne
      subst hne
      rw [hg'] at hg
      cases hg
      have hn0 : n ≠ 0 := fun h => by obtain ⟨o, e⟩ := hv h; cases e; omega
      have hc1 : cap = 1 := by omega
      obtain ⟨v'', w'', hrun', q1, q2⟩ := run_append_arg_grows (P := P) w t ty e i z 2 bytes ht hi hz hsize hby hzs (by omega) ⟨g, 0, none⟩ n cap xs (by rw [hown.1]) (hown.cells (g := g) rfl) a 1 c news (by omega) hnews (by omega) h63 hbytes
      rw [hrun] at hrun'
      cases hrun'
      exact (q2.block g hlt (by simp)).trans hg'
theorem wpListIn_append_two {F : Fence} {n : Nat} {P : Program} (w : World) {ops : Array Oper} {rest : List Oper} {o : Oper} {a : Act} {Q : Exit → Act → World → Prop}
    (hg : o.guard = none) (s x : Operand) (t : TypeId) (hop : o.op = Op.call { callee := Callee.builtin Builtin.append, args := #[s, x], argTypes := #[t, t] })
    (base : Nat) (e : TypeId) (bytes : Nat) (T : SliceOf P t e 2 bytes)
    (v : Value) (k : Nat) (xs : List Value) (hs : a.eval s = v) (hown : w.ownsRow base e 2 v k xs) (hv : k = 0 → ∃ o, v = .slice o 0 0) (ad : Addr) (c : Nat) (news : List Value) (hx : a.eval x = .slice (some ad) 1 c) (hn : news.length = 2)
    (hc : ∀ j u, news[j]? = some u → w.cell? (ad.add j) = some u) (h1c : ∀ u ∈ news, u.oneCell' = true) (b1 : k + 1 ≤ maxLen) (b2 : (k + 1) * bytes ≤ 140737488355328) (b3 : base ≤ w.heap.size)
    (hK : ∀ v' w', w'.ownsRow base e 2 v' (k + 1) (xs ++ news) → w.grownBy w' v.ownBlock → Keep2 e w w' → wpListIn F n P ops Q rest (a.put o.dst v') w') :
    wpListIn F n P ops Q (o :: rest) a w := by
  obtain ⟨h1, i, z, h2, h3, h4, h5, h6, h7⟩ := T
  refine wpListIn_plain hg fun K hK' => ?_
  obtain ⟨v', w', hrun, r1, r2, r3⟩ := run_append_two (P := P) w base t o.type e i z bytes h1 h2 h3 h4 h5 h6 v k xs hown hv ad c news hn hc h1c b1 b2 b3
  unfold Oper.wpIn
  refine ⟨?_, ?_⟩
  · simp [Oper.about, hop, resolve, Target.leads, Sem.run_pure]
  · rw [Oper.semAt_plain F _ _ (by rw [hop]; intro c hc'; cases hc')]
    simp [execOp, hop, resolve, invoke, builtin, hs, hx, hrun, Result.andThen]
    exact hK' _ _ (hK v' w' r1 r2 r3)
theorem wpList_append_two {P : Program} (w : World) {ops : Array Oper} {rest : List Oper} {o : Oper} {a : Act} {Q : Exit → Act → World → Prop}
    (hg : o.guard = none) (s x : Operand) (t : TypeId) (hop : o.op = Op.call { callee := Callee.builtin Builtin.append, args := #[s, x], argTypes := #[t, t] })
    (base : Nat) (e : TypeId) (bytes : Nat) (T : SliceOf P t e 2 bytes)
    (v : Value) (k : Nat) (xs : List Value) (hs : a.eval s = v) (hown : w.ownsRow base e 2 v k xs) (hv : k = 0 → ∃ o, v = .slice o 0 0) (ad : Addr) (c : Nat) (news : List Value) (hx : a.eval x = .slice (some ad) 1 c) (hn : news.length = 2)
    (hc : ∀ j u, news[j]? = some u → w.cell? (ad.add j) = some u) (h1c : ∀ u ∈ news, u.oneCell' = true) (b1 : k + 1 ≤ maxLen) (b2 : (k + 1) * bytes ≤ 140737488355328) (b3 : base ≤ w.heap.size)
    (hK : ∀ v' w', w'.ownsRow base e 2 v' (k + 1) (xs ++ news) → w.grownBy w' v.ownBlock → Keep2 e w w' → wpList P ops Q rest (a.put o.dst v') w') :
    wpList P ops Q (o :: rest) a w := by
  obtain ⟨h1, i, z, h2, h3, h4, h5, h6, h7⟩ := T
  refine wpList_plain hg fun K hK' => ?_
  obtain ⟨v', w', hrun, r1, r2, r3⟩ := run_append_two (P := P) w base t o.type e i z bytes h1 h2 h3 h4 h5 h6 v k xs hown hv ad c news hn hc h1c b1 b2 b3
  unfold Oper.wp
  simp [execOp, hop, resolve, invoke, builtin, hs, hx, hrun, Result.andThen]
  exact hK' _ _ (hK v' w' r1 r2 r3)
theorem cells_new2 (W : World) (E : TypeId) (x y : Value) : ∀ j u, [x, y][j]? = some u → (W.alloc (.cells #[x, y] E)).cell? ((⟨W.heap.size, 0, none⟩ : Addr).add j) = some u := by
  intro j u hu
  have : (⟨W.heap.size, 0, none⟩ : Addr).add j = ⟨W.heap.size, j, none⟩ := by unfold Addr.add; split <;> simp_all
  rw [this, World.cell?_alloc_mark]
  simpa using hu
theorem box_grown {X Y : World} {row : Option Nat} {g : Nat} {E : TypeId} {cs : Array Value} (h : Box X g E cs) (hg : X.grownBy Y row) (hr : ∀ r, row = some r → ∃ o : Obj, X.heap[r]? = some o ∧ o.isCells = false) : Box Y g E cs := by
  refine (hg.block g h.lt fun e => ?_).trans h
  obtain ⟨o, ho, hc⟩ := hr g e.symm
  rw [show X.heap[g]? = _ from h] at ho; cases ho; cases hc
end Go.Proofs.YtocllmaikngoaaaDoor

/-
  The iterator over the sums of two lists of corners: its contract.
-/

namespace Go.Proofs.YtocllmaikngoaaaDoor
open Go.RowKit
set_option linter.unusedVariables false
attribute [local go_sem] Oper.semAt_some
def pairV (x : V2) : Array Value := #[.agg #[.int .i64 x.1, .int .i64 x.2]]
/-- the sums of the first k corners of a, and of corner k with the first q of b -/
def sumN (a b : List V2) (k q : Nat) : List V2 := sumV (a.take k) b ++ (b.take q).map fun w => addV (atV a k) w
theorem sumV_app (a a' b : List V2) : sumV (a ++ a') b = sumV a b ++ sumV a' b := by unfold sumV; rw [List.flatMap_append]
theorem sumN_row {a b : List V2} {k : Nat} (hk : k < a.length) : sumN a b k b.length = sumN a b (k + 1) 0 := by
  unfold sumN
  rw [List.take_length, List.take_succ_eq_append_getElem hk, sumV_app, ← atV_eq hk]
  simp [sumV]
theorem sumN_next {a b : List V2} {k q : Nat} (hq : q < b.length) : sumN a b k (q + 1) = sumN a b k q ++ [addV (atV a k) b[q]] := by
  unfold sumN
  rw [List.take_succ_eq_append_getElem hq, List.map_append, List.append_assoc]; rfl
theorem sumN_all (a b : List V2) : sumN a b a.length 0 = sumV a b := by unfold sumN; simp
theorem sumN_lt {a b : List V2} {k q : Nat} (hk : k < a.length) (hq : q < b.length) : (sumN a b k q).length < (sumV a b).length := by
  have h1 : (sumV a b).length = a.length * b.length := sumV_len a b
  have h2 : (sumN a b k q).length = k * b.length + q := by
    unfold sumN
    rw [List.length_append, sumV_len, List.length_map, List.length_take, List.length_take]
    rw [Nat.min_eq_left (by omega), Nat.min_eq_left (by omega)]
  have h3 : (k + 1) * b.length ≤ a.length * b.length := Nat.mul_le_mul_right _ hk
  rw [Nat.add_mul] at h3
  omega
set_option maxRecDepth 100000 in
set_option maxHeartbeats 4000000 in
theorem sums_in (n l : Nat) (hn : 4 ≤ n) (B1 B2 n0 : Nat) (A : Option Addr) (na ca : Nat) (a : List V2) (D : Option Addr) (nb cb : Nat) (b : List V2) (hva : allV a = true) (hvb : allV b = true)
    (J Jx : List V2 → World → Prop)
    (hY : ∀ pre x W, J pre W → pre.length < (sumV a b).length → YieldAt Fence.wide (n - 1) Tryd.prog l (pairV x) W fun e W' =>
      (e = .returned (.bool true) ∧ J (pre ++ [x]) W' ∧ KpV n0 31 29 B1 B2 W W') ∨ (e = .returned (.bool false) ∧ Jx (pre ++ [x]) W'))
    (W : World) (hnW : n0 ≤ W.heap.size) (hJ : AbidesFrom W.heap.size J)
    (k1 : Boxed W B1 29 (.slice A na ca)) (k2 : Boxed W B2 29 (.slice D nb cb)) (Ra : RdV W n0 A na a) (Rb : RdV W n0 D nb b) (h0 : J [] W) :
    CallsIn Fence.wide n Tryd.prog 75 #[.func (.yield l) #[] #[], .pointer (some ⟨B1, 0, none⟩), .pointer (some ⟨B2, 0, none⟩)] W fun e W' => (∃ v, e = .returned v) ∧
      ((∃ ys, ys = sumV a b ∧ J ys W') ∨ (∃ pre, True ∧ Jx pre W')) := by
  refine callsIn_of_wp Tryd.func75 rfl trivial ?_ rfl
  simp only [Tryd.ntmps75, List.size_toArray, List.length_cons, List.length_nil, Nat.reduceAdd, Nat.reduceSub, Array.replicate_succ, Array.replicate_zero, List.push_toArray, List.append_toArray, List.nil_append, List.cons_append]
  obtain ⟨hna, hxa, hla, hwa⟩ := Ra
  obtain ⟨hnb, hxb, hlb, hwb⟩ := Rb
  have c1 := k1.cell
  clear k1
  gi_wp2
  gi_loopw [10] (fun i wr => ∃ k : Nat, k ≤ na ∧ i = .int .i64 k ∧ J (sumN a b k 0) wr ∧ Below n0 W wr ∧ Boxed wr B2 29 (.slice D nb cb)) (fun i _ => na - (intOf i).toNat)
  case atStart => exact ⟨0, Nat.zero_le _, rfl, h0, Below.refl _ _, k2⟩
  case round =>
    clear k2 h0
    obtain ⟨k, hk, rfl, hJk, hbel, k2⟩ := hrel
    have hnr := Nat.le_trans hnW hbel.size
    by_cases hlt : k < na
    · obtain ⟨ad, hA, hb1, hc1, hc2⟩ := (hxa.below hbel).vec (k := k) (by omega)
      have hkl : k < a.length := by omega
      have hvk := allV_at hva hkl
      have HAT : Hid (addV (atV a k) = addV (a[k].1, a[k].2)) := by show _ = _; rw [atV_eq hkl]
      unfold vecV at hvk
      generalize a[k].1 = x0 at *
      generalize a[k].2 = y0 at *
      obtain ⟨W0, hW0⟩ : ∃ W0, W0 = wr.alloc (.cells #[.int .i64 x0, .int .i64 y0] 31) := ⟨_, rfl⟩
      have ka : Box W0 wr.heap.size 31 #[.int .i64 x0, .int .i64 y0] := by rw [hW0]; exact Box.last _ _ _ rfl
      have hT : Below wr.heap.size wr W0 := by rw [hW0]; exact below_new _ _
      have hJ0 := hJ _ _ _ none hJk (grown_of_below hT) (fun r e => by cases e)
      have hb0 := hbel.trans (hT.mono hnr)
      have k2' : Boxed W0 B2 29 (.slice D nb cb) := by rw [hW0]; exact k2.alloc _
      have c3 := k2'.cell
      rw [hW0] at c3
      obtain ⟨g, hg⟩ : ∃ g, g = wr.heap.size := ⟨_, rfl⟩
      rw [← hg] at ka
      subst hA
      gi_wp2
      rw [← hW0, ← hg]
      clear hW0 hg hc1 hc2 hT hJk hbel k2 c3
      gi_loopw [16] (fun j wi => ∃ q : Nat, q ≤ nb ∧ j = .int .i64 q ∧ J (sumN a b k q) wi ∧ Below n0 W wi ∧ Box wi g 31 #[.int .i64 x0, .int .i64 y0] ∧ Boxed wi B2 29 (.slice D nb cb)) (fun j _ => nb - (intOf j).toNat)
      case atStart => exact ⟨0, Nat.zero_le _, rfl, hJ0, hb0, ka, k2'⟩
      case round =>
        clear hJ0 hb0 ka k2'
        obtain ⟨q, hq, rfl, hJq, hbel, ka, k2⟩ := hrel
        have hnr := Nat.le_trans hnW hbel.size
        by_cases hqt : q < nb
        · obtain ⟨ae, hE, hb2, hc1, hc2⟩ := (hxb.below hbel).vec (k := q) (by omega)
          have hql : q < b.length := by omega
          have hvq := allV_at hvb hql
          have HS : Hid (sumN a b k (q + 1) = sumN a b k q ++ [(x0 + b[q].1, y0 + b[q].2)]) := by show _ = _; rw [sumN_next hql, HAT.out]; rfl
          have HL := hide (sumN_lt hkl hql)
          unfold vecV at hvq
          generalize b[q].1 = x1 at *
          generalize b[q].2 = y1 at *
          obtain ⟨W1, hW1⟩ : ∃ W1, W1 = wr.alloc (.cells #[.int .i64 x1, .int .i64 y1] 31) := ⟨_, rfl⟩
          have kb : Box W1 wr.heap.size 31 #[.int .i64 x1, .int .i64 y1] := by rw [hW1]; exact Box.last _ _ _ rfl
          have ka1 : Box W1 g 31 #[.int .i64 x0, .int .i64 y0] := by rw [hW1]; exact ka.alloc _
          have hT : Below wr.heap.size wr W1 := by rw [hW1]; exact below_new _ _
          have HC := hide (impl_sumOf W1 x0 y0 x1 y1 hvk hvq)
          generalize x0 + x1 = sx at *
          generalize y0 + y1 = sy at *
          obtain ⟨yb0, yb1⟩ := kb.cells2
          obtain ⟨ya0, ya1⟩ := ka1.cells2
          have k21 : Boxed W1 B2 29 (.slice D nb cb) := by rw [hW1]; exact k2.alloc _
          have hlg := ka1.lt
          rw [hW1] at yb0 yb1 ya0 ya1 HC
          subst hE
          gi_wp2_with fail
          refine ⟨trivial, fun _ => by omega, ?_⟩
          refine (callsIn_wide.2 HC.out).mono ?_
          rw [← hW1]
          rintro e w2 ⟨rfl, hbs⟩
          clear ya0 ya1 yb0 yb1 HC hc1 hc2 hW1
          have hTT := below_then hT hbs
          have hb2' := hbel.trans (hTT.mono hnr)
          have hJ2 := hJ _ _ _ none hJq (grown_of_below hTT) (fun r e => by cases e)
          have ka2 := ka1.below hbs hlg
          have k22 := k21.kept (grown_of_below hbs) (by simp)
          have hnr2 := Nat.le_trans hnW hb2'.size
          clear hJq hbel ka ka1 kb hT hbs hTT k2 k21
          obtain ⟨fn, tmps, assign, body, hy, hR⟩ := hY _ (sx, sy) w2 hJ2 HL.out
          dsimp only [pairV] at hy
          gi_wp2
          refine ⟨fun _ => by omega, hR.mono ?_⟩
          rintro e W3 (⟨rfl, hJ3, hk3⟩ | ⟨rfl, hJx3⟩)
          · have ka3 := box_keep hk3.2.1 ka2
            have k23 := boxed_keep hk3.2.2 (.inr rfl) k22
            have hb3 := hb2'.trans hk3.1
            gi_wp2
            go_roundw
            case rel => exact ⟨q + 1, by omega, by go_num, by rw [HS.out]; exact hJ3, hb3, ka3, k23⟩
            case measure => simp [intOf]; omega
          · gi_wp2
            refine bodyPost_ret (results_none rfl _ _ _) rfl ?_
            exact ⟨⟨_, rfl⟩, .inr ⟨_, trivial, hJx3⟩⟩
        · obtain rfl : q = nb := by omega
          have hJ3 : J (sumN a b (k + 1) 0) wr := by rw [← sumN_row hkl, hnb]; exact hJq
          clear hJq ka
          gi_wp2
          go_roundw
          case rel => exact ⟨k + 1, by omega, by go_num, hJ3, hbel, k2⟩
          case measure => simp [intOf]; omega
    · obtain rfl : k = na := by omega
      have hJ3 : J (sumV a b) wr := by rw [← sumN_all, hna]; exact hJk
      clear hJk
      gi_wp2
      go_end0
      exact ⟨⟨_, rfl⟩, .inl ⟨_, rfl, hJ3⟩⟩
end Go.Proofs.YtocllmaikngoaaaDoor
