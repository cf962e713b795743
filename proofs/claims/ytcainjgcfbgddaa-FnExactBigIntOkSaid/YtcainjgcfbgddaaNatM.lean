/-
  Small words for naturals and for lists of the call's own: what no function is named in.
-/
import Derived.Test.YtcainjgcfbgddaaOwn
import Derived.Test.YtcainjgcfbgddaaNatP
import Derived.Test.YtcainjgcfbgddaaNatQ
import Derived.Laws.AppendOwnNone
namespace Go.Proofs.Ytcainjgcfbgddaa
open Go.RowKit
set_option linter.unusedVariables false

theorem natB_bad {l : List Int} {k : Nat} (hk : k < l.length) (h : ¬ (0 ≤ l[k] ∧ l[k] ≤ 999999999)) : natB l = false := by
  rw [Bool.eq_false_iff]
  intro hb
  exact h (((natB_iff l).1 hb).1.1 _ (List.getElem_mem hk))
theorem natB_long {l : List Int} (h : 60 < l.length) : natB l = false := by
  rw [Bool.eq_false_iff]
  intro hb
  have := ((natB_iff l).1 hb).2
  omega
theorem natB_last {l : List Int} (h0 : 0 < l.length) (h60 : l.length ≤ 60) (hl : Limbs l) : natB l = (l[l.length - 1] != 0) := by
  have hg : l.getLast? = some l[l.length - 1] := by rw [List.getLast?_eq_getElem?, List.getElem?_eq_getElem (by omega)]
  by_cases hz : l[l.length - 1] = 0
  · have : natB l = false := by
      rw [Bool.eq_false_iff]
      intro hb
      exact ((natB_iff l).1 hb).1.2 _ hg hz
    rw [this]; simp [hz]
  · have : natB l = true := (natB_iff l).2 ⟨⟨hl, fun d hd => by rw [hg] at hd; injection hd with hd; omega⟩, h60⟩
    rw [this]; simp [hz]
/-! ### l02Trim -/
theorem trim_take_step {l : List Int} {k : Nat} (hk : k < l.length) (h : l[k] = 0) : trim (l.take (k + 1)) = trim (l.take k) := by
  rw [List.take_succ_eq_append_getElem hk, h, trim_snoc_zero]
theorem trim_take_end {l : List Int} {k : Nat} (hk : k < l.length) (h : l[k] ≠ 0) : trim (l.take (k + 1)) = l.take (k + 1) := by
  rw [List.take_succ_eq_append_getElem hk, trim_snoc h]
/-! ### l02Cap -/
def capT (xs : List Int) : List Int := if (trim xs).length ≤ 60 then trim xs else []
theorem capT_capL {xs : List Int} (h : Limbs xs) {n : Nat} (hv : val xs = n) : capT xs = capL n := by
  rw [capT, capL, trim_eq h hv]
theorem split_at {l : List Int} {j : Nat} (h : j < l.length) : l = l.take j ++ l[j] :: l.drop (j + 1) := by
  rw [← List.drop_eq_getElem_cons h, List.take_append_drop]
theorem cmp_at {xs ys : List Int} {j : Nat} (hx : Limbs xs) (hy : Limbs ys) (h : j < xs.length) (h' : j < ys.length) (hd : xs.drop (j + 1) = ys.drop (j + 1)) (hlt : xs[j] < ys[j]) : val xs < val ys := by
  have e1 := split_at h
  have e2 := split_at h'
  rw [e1, e2, hd]
  exact val_lt_top (hx.take j) (hy.take j) (by rw [List.length_take, List.length_take]; omega) hlt
theorem cmpL_ok {a b : List Int} (ha : natB a = true) (hb : natB b = true) : cmpL a b = cmpV (val a) (val b) := by
  rw [cmpL, ha, hb, cmpV, ← natV_val ha, ← natV_val hb]
  simp
theorem add_step {P va q x y tx ty N : Int} (h : va + P * q = tx + ty) (hN : N = q + x + y) : va + P * (N % 1000000000) + P * 1000000000 * (N / 1000000000) = (tx + P * x) + (ty + P * y) := by
  have e : N % 1000000000 + 1000000000 * (N / 1000000000) = N := by omega
  have e2 : P * (N % 1000000000) + P * 1000000000 * (N / 1000000000) = P * N := by rw [Int.mul_assoc, ← Int.mul_add, e]
  rw [Int.add_assoc, e2, hN, Int.mul_add, Int.mul_add]
  omega
theorem val_take_step (l : List Int) (k : Nat) : val (l.take (k + 1)) = val (l.take k) + 1000000000 ^ k * l.getD k 0 := by
  by_cases h : k < l.length
  · rw [List.take_succ_eq_append_getElem h, val_append, List.length_take, Nat.min_eq_left (by omega), List.getD, List.getElem?_eq_getElem h]
    simp [val]
  · rw [List.take_of_length_le (by omega), List.take_of_length_le (by omega), List.getD, List.getElem?_eq_none (by omega)]
    simp
theorem val_snoc (l : List Int) (d : Int) : val (l ++ [d]) = val l + 1000000000 ^ l.length * d := by rw [val_append]; simp [val]
/-- the sum so far, with the carry behind it -/
def Sum (xs ys acc : List Int) (k : Nat) (q : Int) : Prop := acc.length = k ∧ Limbs acc ∧ val acc + 1000000000 ^ k * q = val (xs.take k) + val (ys.take k)
theorem Sum.next {xs ys acc : List Int} {k : Nat} {q x y N : Int} (h : Sum xs ys acc k q) (hx : xs.getD k 0 = x) (hy : ys.getD k 0 = y) (hN : N = q + x + y) (h0 : 0 ≤ N) : Sum xs ys (acc ++ [N % 1000000000]) (k + 1) (N / 1000000000) := by
  obtain ⟨h1, h2, h3⟩ := h
  refine ⟨by rw [List.length_append, h1]; rfl, h2.append (Limbs.mk (by omega) Limbs.nil), ?_⟩
  have := add_step (P := 1000000000 ^ k) h3 hN
  rw [val_snoc, h1, val_take_step, val_take_step, hx, hy, Int.pow_succ]
  exact this
theorem getD_in {l : List Int} {k : Nat} (h : k < l.length) : l.getD k 0 = l[k] := by rw [List.getD, List.getElem?_eq_getElem h]; rfl
theorem getD_out {l : List Int} {k : Nat} (h : l.length ≤ k) : l.getD k 0 = 0 := by rw [List.getD, List.getElem?_eq_none h]; rfl
theorem addL_ok {a b : List Int} (ha : natB a = true) (hb : natB b = true) {acc : List Int} (hl : Limbs acc) (hv : val acc = val a + val b) : capT acc = addL a b := by
  rw [addL, ha, hb]
  exact capT_capL hl (by rw [hv, ← natV_val ha, ← natV_val hb]; simp)
/-- the difference so far, with what was borrowed -/
def Dif (xs ys acc : List Int) (k : Nat) (q : Int) : Prop := acc.length = k ∧ Limbs acc ∧ val acc - 1000000000 ^ k * q = val (xs.take k) - val (ys.take k)
theorem sub_step {P va q x y tx ty d q' : Int} (h : va - P * q = tx - ty) (hd : d = x - q - y + 1000000000 * q') : va + P * d - P * 1000000000 * q' = (tx + P * x) - (ty + P * y) := by
  have e : P * d - P * 1000000000 * q' = P * (x - q - y) := by rw [hd, Int.mul_add, Int.mul_assoc]; omega
  have e2 : P * (x - q - y) = P * x - P * q - P * y := by rw [Int.mul_sub, Int.mul_sub]
  omega
theorem Dif.next {xs ys acc : List Int} {k : Nat} {q x y d q' : Int} (h : Dif xs ys acc k q) (hx : xs.getD k 0 = x) (hy : ys.getD k 0 = y) (hd : d = x - q - y + 1000000000 * q') (h0 : 0 ≤ d) (h1 : d ≤ 999999999) : Dif xs ys (acc ++ [d]) (k + 1) q' := by
  obtain ⟨g1, g2, g3⟩ := h
  refine ⟨by rw [List.length_append, g1]; rfl, g2.append (Limbs.mk ⟨h0, h1⟩ Limbs.nil), ?_⟩
  have := sub_step (P := 1000000000 ^ k) g3 hd
  rw [val_snoc, g1, val_take_step, val_take_step, hx, hy, Int.pow_succ]
  exact this
theorem Dif.done {xs ys acc : List Int} {q : Int} (h : Dif xs ys acc xs.length q) (hm : ys.length ≤ xs.length) (hq : q = 0 ∨ q = 1) (hle : val ys ≤ val xs) : val acc = val xs - val ys := by
  obtain ⟨g1, g2, g3⟩ := h
  rw [List.take_of_length_le (Nat.le_refl _), List.take_of_length_le hm] at g3
  have hv := val_lt g2
  rw [g1] at hv
  rcases hq with rfl | rfl
  · simp at g3; omega
  · simp at g3; omega
theorem subL_ok {a b : List Int} (ha : natB a = true) (hb : natB b = true) : subL a b = limbs (val a - val b).toNat := by
  rw [subL, ha, hb]
  have h1 := natV_val ha
  have h2 := natV_val hb
  simp only [Bool.and_self, if_true]
  congr 1; omega
theorem cmpV_neg {a b : Int} : decide (cmpV a b < 0) = decide (a < b) := by
  unfold cmpV
  split
  · simp [*]
  · split
    · simp; omega
    · simp; omega
theorem val_set : ∀ (l : List Int) (p : Nat) (d : Int), p < l.length → val (l.set p d) = val l + 1000000000 ^ p * (d - l.getD p 0)
  | [], p, d, h => absurd h (Nat.not_lt_zero _)
  | x :: r, 0, d, _ => by simp [val, List.getD]; omega
  | x :: r, p + 1, d, h => by
    have ih := val_set r p d (by simpa using h)
    rw [List.set_cons_succ, val, ih, val, List.getD_cons_succ, Int.mul_add, Int.pow_succ, Int.mul_comm (1000000000 ^ p) 1000000000, Int.mul_assoc]
    omega
theorem Limbs.set {l : List Int} (h : Limbs l) (p : Nat) {d : Int} (hd : 0 ≤ d ∧ d ≤ 999999999) : Limbs (l.set p d) := fun x hx => by
  rcases List.mem_or_eq_of_mem_set hx with h' | rfl
  · exact h x h'
  · exact hd
theorem getD_set_ne {l : List Int} {p p' : Nat} {d : Int} (h : p ≠ p') : (l.set p d).getD p' 0 = l.getD p' 0 := by
  simp [List.getD, List.getElem?_set_ne h]
/-- the product of the first k limbs of xs with ys -/
def Prd (xs ys zs : List Int) (k : Nat) : Prop := zs.length = xs.length + ys.length ∧ Limbs zs ∧ (∀ p, k + ys.length ≤ p → zs.getD p 0 = 0) ∧ val zs = val (xs.take k) * val ys
/-- .. and of limb k with the first j limbs of ys, the carry q behind it -/
def Prt (xs ys zs : List Int) (k j : Nat) (x q : Int) : Prop := zs.length = xs.length + ys.length ∧ Limbs zs ∧ (∀ p, k + ys.length ≤ p → zs.getD p 0 = 0) ∧ val zs + 1000000000 ^ (k + j) * q = val (xs.take k) * val ys + 1000000000 ^ k * (x * val (ys.take j))
theorem mul_step {P V q o x y N R : Int} (h : V + P * q = R) (hN : N = o + x * y + q) : V + P * (N % 1000000000 - o) + P * 1000000000 * (N / 1000000000) = R + P * (x * y) := by
  have e : N % 1000000000 + 1000000000 * (N / 1000000000) = N := by omega
  have e2 : P * (N % 1000000000 - o) + P * 1000000000 * (N / 1000000000) = P * (N - o) := by
    rw [Int.mul_assoc, ← Int.mul_add]; congr 1; omega
  rw [Int.add_assoc, e2, show N - o = x * y + q by omega, Int.mul_add]
  omega
theorem Prt.next {xs ys zs : List Int} {k j : Nat} {x q y o N : Int} (h : Prt xs ys zs k j x q) (hj : j < ys.length) (hk : k < xs.length) (hy : ys.getD j 0 = y) (ho : zs.getD (k + j) 0 = o) (hN : N = o + x * y + q) (h0 : 0 ≤ N) :
    Prt xs ys (zs.set (k + j) (N % 1000000000)) k (j + 1) x (N / 1000000000) := by
  obtain ⟨g1, g2, g3, g4⟩ := h
  refine ⟨by rw [List.length_set]; exact g1, g2.set _ (by omega), fun p hp => by rw [getD_set_ne (by omega)]; exact g3 p hp, ?_⟩
  have := mul_step (P := 1000000000 ^ (k + j)) g4 hN
  rw [val_set _ _ _ (by omega), ho, val_take_step, hy, ← Nat.add_assoc, Int.pow_succ, this, Int.mul_add, Int.mul_add, Int.add_assoc]
  congr 2
  rw [Int.pow_add, Int.mul_assoc]
  congr 1
  rw [← Int.mul_assoc, Int.mul_comm (1000000000 ^ j) x, Int.mul_assoc]
theorem Prt.done {xs ys zs : List Int} {k : Nat} {x q : Int} (h : Prt xs ys zs k ys.length x q) (hk : k < xs.length) (hx : xs.getD k 0 = x) (hq : 0 ≤ q ∧ q ≤ 999999999) : Prd xs ys (zs.set (k + ys.length) q) (k + 1) := by
  obtain ⟨g1, g2, g3, g4⟩ := h
  have hz := g3 (k + ys.length) (Nat.le_refl _)
  refine ⟨by rw [List.length_set]; exact g1, g2.set _ hq, fun p hp => by rw [getD_set_ne (by omega)]; exact g3 p (by omega), ?_⟩
  rw [val_set _ _ _ (by omega), hz, Int.sub_zero, g4, List.take_of_length_le (Nat.le_refl _), val_take_step, hx, Int.add_mul, Int.mul_assoc]
theorem Prd.part {xs ys zs : List Int} {k : Nat} {x : Int} (h : Prd xs ys zs k) : Prt xs ys zs k 0 x 0 := by
  obtain ⟨g1, g2, g3, g4⟩ := h
  exact ⟨g1, g2, g3, by simp [val, g4]⟩
theorem iv_set (zs : List Int) (p : Nat) (d : Int) : (iv zs).set p (.int .i64 d) = iv (zs.set p d) := by simp [iv, List.map_set]
theorem own_int {w : World} {base g n c j : Nat} {E : TypeId} {zs : List Int} (h : w.ownsRow base E 1 (.slice (some ⟨g, 0, none⟩) n c) n (iv zs)) (hj : j < n) : w.cell? ⟨g, j, none⟩ = some (.int .i64 (zs.getD j 0)) := by
  have hz : zs.length = n := by have := h.1; rw [iv_len] at this; omega
  rw [h.cellAt j (by omega)]
  simp [iv, List.getD, List.getElem?_eq_getElem (show j < zs.length by omega)]
theorem mulL_ok {a b : List Int} (ha : natB a = true) (hb : natB b = true) : capT (limbs (val a * val b).toNat) = mulL a b := by
  rw [mulL, ha, hb, capT_capL (limbs_ok _) (val_limbs _)]
  have h1 := natV_val ha
  have h2 := natV_val hb
  have e : (val a * val b).toNat = natV a * natV b := by rw [← h1, ← h2, ← Int.natCast_mul]; rfl
  rw [e]; simp
def natIntOk (l : List Int) : Bool := natB l && decide (val l ≤ 9223372036854775807)
def natInt (l : List Int) : Int := if natIntOk l then val l else 0
theorem val_drop {l : List Int} {j : Nat} (h : j < l.length) : val (l.drop j) = l[j] + 1000000000 * val (l.drop (j + 1)) := by
  rw [List.drop_eq_getElem_cons h, val]
theorem val_drop_le {l : List Int} (h : Limbs l) (j : Nat) : val (l.drop j) ≤ val l := by
  have e : val l = val (l.take j) + 1000000000 ^ (l.take j).length * val (l.drop j) := by rw [← val_append, List.take_append_drop]
  have h1 := val_nonneg (h.take j)
  have h2 := val_nonneg (h.drop j)
  have hp := pow_pos' (l.take j).length
  have h3 : 1 * val (l.drop j) ≤ 1000000000 ^ (l.take j).length * val (l.drop j) := Int.mul_le_mul_of_nonneg_right (by omega) h2
  omega
def maxL : List Int := [854775807, 223372036, 9]
theorem maxL_canon : Canon maxL := ⟨fun d hd => by simp [maxL] at hd; omega, fun d hd => by simp [maxL] at hd; omega⟩
theorem maxL_val : val maxL = 9223372036854775807 := by simp [maxL, val]
theorem ret_pair {n m : Int} {a b : Bool} (h1 : n = m) (h2 : a = b) : Ending.returned (.tuple #[.int .i64 n, .bool a]) = .returned (.tuple #[.int .i64 m, .bool b]) := by rw [h1, h2]
theorem ret_si {v v' : Value} {a b : Int} (h1 : v = v') (h2 : a = b) : Ending.returned (.tuple #[v, .int .i64 a]) = .returned (.tuple #[v', .int .i64 b]) := by rw [h1, h2]
theorem own_trim {w : World} {g : Nat} {E : TypeId} {xs : List Int} {m : Nat} (h : Blk w g E xs) (hm : m ≤ xs.length) (ht : trim xs = xs.take m) : w.ownsRow g E 1 (.slice (some ⟨g, 0, none⟩) m xs.length) (trim xs).length (iv (trim xs)) := by
  have := own_cut h hm
  rw [ht, List.length_take, Nat.min_eq_left hm, show iv (xs.take m) = (iv xs).take m by simp [iv, List.map_take]]
  exact this
theorem run_append_nilc {P : Program} {w : World} (base : Nat) (t ty e : TypeId) (i : TypeInfo) (size : Nat) (ht : P.underlying t = some (.slice e)) (hi : P.info? e = some i) (v : Value) (n : Nat) (xs : List Value) (hown : w.ownsRow base e size v n xs) (c : Nat) :
    (Builtin.append_ #[t, t] ty #[v, .slice none 0 c]).run P w = .ok v w := by
  rcases hown.2 with ⟨rfl, _⟩ | ⟨g, c', cur, rfl, _, hg, hnc, _⟩
  · simp [Builtin.append_, run_underlying ht, sizeOf, typeInfo, hi, Builtin.lenOf, Builtin.firstCells]
  · simp [Builtin.append_, run_underlying ht, sizeOf, typeInfo, hi, Builtin.lenOf, Builtin.firstCells, hnc, storeCells]
/-- append of a list that can be read, to a row of the call's own -/
theorem wpList_append_rd {P : Program} {t e : TypeId} {size bytes : Nat} (T : SliceOf P t e size bytes) (hone : size = 1) {ops : Array Oper} {rest : List Oper} {o : Oper} {a : Act} {Q : Exit → Act → World → Prop}
    (hgd : o.guard = none) (s x : Operand) (ho : o.op = .call { callee := .builtin .append, args := #[s, x], argTypes := #[t, t] })
    (W : World) (base : Nat) (v : Value) (n : Nat) (xs : List Value) (hown : W.ownsRow base e size v n xs) (hs : a.eval s = v)
    (B : Nat) (A : Option Addr) (m c : Nat) (news : List Value) (hx : a.eval x = .slice A m c) (hl : news.length = m) (R : Rd W B A news) (h1 : ∀ u ∈ news, u.oneCell' = true)
    (h63 : n + m ≤ maxLen) (hn : (n + m) * bytes ≤ 140737488355328) (hbase : base ≤ W.heap.size)
    (h : ∀ v' w', w'.ownsRow base e size v' (n + m) (xs ++ news) → Below base W w' → wpList P ops Q rest (a.put o.dst v') w') :
    wpList P ops Q (o :: rest) a W := by
  obtain ⟨ht, i, z, hi, hz, hsize, hby, hzs, hsz⟩ := T
  cases A with
  | none =>
    have hnil : news = [] := by
      rcases R with e | ⟨ad, e, _⟩
      · exact e
      · cases e
    subst hnil
    have hm : m = 0 := by simpa using hl.symm
    subst hm
    refine wpList_plain hgd fun K hK => ?_
    have hrun := run_append_nilc (P := P) (w := W) base t o.type e i size ht hi v n xs hown c
    unfold Oper.wp
    simp [execOp, ho, resolve, invoke, builtin, hs, hx, hrun, Result.andThen]
    exact hK _ _ (h v W (by simpa using hown) (Below.refl _ _))
  | some ad =>
    refine wpList_append_own W hgd s x t ho base e i z size bytes ht hi hz hsize hby hzs hsz v n xs hs hown ad m c news hx (by subst hone; omega) ?_ h1 h63 hn hbase ?_
    · intro j u hu
      rcases R with e | ⟨ad', e, _, hc⟩
      · subst e; simp at hu
      · injection e with e; subst e; exact hc j u hu
    · intro v' w' hown' hgrow _
      exact h v' w' hown' ((Below.refl base W).grown hgrow hbase fun k hk => (hown.lt k hk).1)
theorem own_one (w : World) (E : TypeId) (u : Value) : (w.alloc (.cells #[u] E)).ownsRow w.heap.size E 1 (.slice (some ⟨w.heap.size, 0, none⟩) 1 1) 1 [u] :=
  ⟨rfl, .inr ⟨w.heap.size, 1, #[u], rfl, Nat.le_refl _, by show (w.heap.push _)[w.heap.size]? = _; rw [Array.getElem?_push_size], Nat.le_refl _, by unfold maxLen; omega, rfl, rfl⟩⟩
theorem own_aside {w w' : World} {base lo hi n : Nat} {E : TypeId} {v : Value} {xs : List Value} (h : w.ownsRow base E 1 v n xs) (ha : Aside lo hi w w') (hd : hi ≤ base) : w'.ownsRow base E 1 v n xs := by
  refine ⟨h.1, ?_⟩
  rcases h.2 with hn | ⟨g, c, cur, rfl, hbg, hg, r⟩
  · exact .inl hn
  · have hgs : g < w.heap.size := (Array.getElem?_eq_some_iff.1 hg).1
    exact .inr ⟨g, c, cur, rfl, hbg, by rw [ha.block g hgs (by omega)]; exact hg, r⟩
theorem own_nilcap {w : World} {base n c : Nat} {e : TypeId} {A : Option Addr} {xs : List Value} (h : w.ownsRow base e 1 (.slice A n c) n xs) : (A = none → c = 0) ∧ n ≤ c ∧ c ≤ maxLen := by
  rcases h.2 with ⟨h1, h2⟩ | ⟨g, c', cur, hv, _, _, hnc, hcm, _⟩
  · injection h1 with e1 e2 e3; subst e3; exact ⟨fun _ => rfl, by omega, by unfold maxLen; omega⟩
  · injection hv with e1 e2 e3; subst e3; exact ⟨(fun h => by rw [h] at e1; cases e1), hnc, hcm⟩
theorem iv_one (xs : List Int) : ∀ u ∈ iv xs, u.oneCell' = true := fun u hu => by
  obtain ⟨d, _, rfl⟩ := List.mem_map.1 hu; rfl
theorem own_trimR {w : World} {base n c m : Nat} {E : TypeId} {A : Option Addr} {xs : List Int} (h : w.ownsRow base E 1 (.slice A n c) n (iv xs)) (hm : m ≤ n) (ht : trim xs = xs.take m) : w.ownsRow base E 1 (.slice A m c) (trim xs).length (iv (trim xs)) := by
  have hl : xs.length = n := by have := h.1; rw [iv_len] at this; omega
  have e : (trim xs).length = m := by rw [ht, List.length_take]; omega
  rw [e]
  rw [ht, show iv (xs.take m) = (iv xs).take m by simp [iv, List.map_take]]
  rcases own_form h with ⟨h', h0, hx0⟩ | ⟨g, c', h', _, _⟩
  · injection h' with h1 h2 h3
    subst h1 h3
    obtain rfl : m = 0 := by omega
    exact World.ownsRow_nil _ _ _ _
  · injection h' with h1 h2 h3
    subst h1 h3
    exact own_cut h hm
/-- two lists of the call's own, in stretches apart -/
def Two (w w' : World) (E : TypeId) (v1 : Value) (xs : List Int) (v2 : Value) (ys : List Int) : Prop :=
  ∃ l1 h1 l2 h2, Own w' l1 h1 E v1 xs.length (iv xs) ∧ Own w' l2 h2 E v2 ys.length (iv ys) ∧ w.heap.size ≤ l1 ∧ w.heap.size ≤ l2 ∧ h1 ≤ w'.heap.size ∧ h2 ≤ w'.heap.size ∧ (h1 ≤ l2 ∨ h2 ≤ l1)
theorem ret_vv {a b c d : Value} (h1 : a = b) (h2 : c = d) : Ending.returned (.tuple #[a, c]) = .returned (.tuple #[b, d]) := by rw [h1, h2]
theorem two_nil (w : World) (E : TypeId) : Two w w E (.slice none 0 0) [] (.slice none 0 0) [] :=
  ⟨w.heap.size, w.heap.size, w.heap.size, w.heap.size, Own.nil _ _ _ _, Own.nil _ _ _ _, Nat.le_refl _, Nat.le_refl _, Nat.le_refl _, Nat.le_refl _, .inl (Nat.le_refl _)⟩
theorem natV_limbs (n : Nat) : natV (limbs n) = n := by rw [natV, val_limbs]; simp
theorem natB_limbs {n : Nat} (h : n < 1000000000 ^ 60) : natB (limbs n) = true := (natB_iff _).2 ⟨limbs_canon n, limbs_len.2 h⟩
theorem RdI.of_own {w : World} {lo hi n c : Nat} {E : TypeId} {A : Option Addr} {xs : List Int} (o : Own w lo hi E (.slice A n c) n (iv xs)) (hl : n ≤ 1048576) (hw : Limbs xs) : RdI w w.heap.size A n xs :=
  ⟨by have := o.len; rwa [iv_len] at this, o.rd, hl, fun d hd => by have := hw d hd; exact WalkArith.wf_i64 ⟨by omega, by omega⟩⟩
theorem natInt_small {n : Nat} (h : (limbs n).length < 3) : natInt (limbs n) = n ∧ natIntOk (limbs n) = true ∧ n ≤ 999999999999999999 := by
  have h2 : n < 1000000000 ^ 2 := limbs_len.1 (by omega)
  have h3 : n ≤ 999999999999999999 := by omega
  have hok : natIntOk (limbs n) = true := by
    rw [natIntOk, natB_limbs (Nat.lt_of_lt_of_le h2 (Nat.pow_le_pow_right (by omega) (by omega))), val_limbs]
    simp; omega
  exact ⟨by rw [natInt, hok, val_limbs]; simp, hok, h3⟩
theorem iv_inj {xs ys : List Int} (h : iv xs = iv ys) : xs = ys := by
  have : ∀ (a b : List Int), iv a = iv b → a = b := by
    intro a
    induction a with
    | nil => intro b hb; cases b with
      | nil => rfl
      | cons y r => simp [iv] at hb
    | cons x a ih => intro b hb; cases b with
      | nil => simp [iv] at hb
      | cons y r =>
        simp only [iv, List.map_cons, List.cons.injEq, Value.int.injEq, true_and] at hb
        rw [hb.1, ih r hb.2]
  exact this xs ys h
theorem Own.uniq {w : World} {lo hi n m : Nat} {E : TypeId} {v : Value} {xs ys : List Value} (a : Own w lo hi E v n xs) (b : Own w lo hi E v m ys) : xs = ys := by
  have la := a.1
  have lb := b.1
  rcases a.2 with ⟨h1, h2⟩ | ⟨g, c, cur, hv, _, _, _, _, hg, r⟩
  · rcases b.2 with ⟨_, h4⟩ | ⟨g', c', cur', hv', _⟩
    · rw [List.eq_nil_of_length_eq_zero (la.trans h2), List.eq_nil_of_length_eq_zero (lb.trans h4)]
    · rw [h1] at hv'; cases hv'
  · rcases b.2 with ⟨h3, _⟩ | ⟨g', c', cur', hv', _, _, _, _, hg', r'⟩
    · rw [h3] at hv; cases hv
    · rw [hv] at hv'
      injection hv' with e1 e2 e3
      injection e1 with e1; injection e1 with e1
      subst e1 e2
      rw [hg] at hg'
      injection hg' with hg'; injection hg' with hg'
      subst hg'
      rw [← r, ← r']
theorem limbs_inj {a b : Nat} (h : limbs a = limbs b) : a = b := by rw [← natV_limbs a, h, natV_limbs]
/-- the number that a list of the call's own holds -/
noncomputable def numOf (lo : Nat) (E : TypeId) (v : Value) (w : World) : Nat :=
  open Classical in if h : ∃ Y, Own w lo w.heap.size E v (limbs Y).length (iv (limbs Y)) then Classical.choose h else 0
theorem numOf_eq {lo : Nat} {E : TypeId} {v : Value} {w : World} {Y : Nat} (h : Own w lo w.heap.size E v (limbs Y).length (iv (limbs Y))) : numOf lo E v w = Y := by
  unfold numOf
  have he : ∃ Y, Own w lo w.heap.size E v (limbs Y).length (iv (limbs Y)) := ⟨Y, h⟩
  rw [dif_pos he]
  exact limbs_inj (iv_inj ((Classical.choose_spec he).uniq h))
theorem gcdL_ok {a b : List Int} (ha : natB a = true) (hb : natB b = true) : limbs (Nat.gcd (natV a) (natV b)) = gcdL a b := by rw [gcdL, ha, hb]; rfl
theorem ret_vb {v v' : Value} {a b : Bool} (h1 : v = v') (h2 : a = b) : Ending.returned (.tuple #[v, .bool a]) = .returned (.tuple #[v', .bool b]) := by rw [h1, h2]
theorem parse_no {s : ByteArray} (h : parseB s = false) : parseL s = [] := by rw [parseL, h]; rfl
theorem own_nilcap' {w : World} {base n c : Nat} {e : TypeId} {A : Option Addr} {xs : List Value} (h : w.ownsRow base e 1 (.slice A n c) n xs) : (A = none → c = 0) ∧ n ≤ c ∧ c ≤ maxLen := by
  rcases h.2 with ⟨h1, h2⟩ | ⟨g, c', cur, hv, _, _, hnc, hcm, _⟩
  · injection h1 with e1 e2 e3; subst e3; exact ⟨fun _ => rfl, by omega, by unfold maxLen; omega⟩
  · injection hv with e1 e2 e3; subst e3; exact ⟨(fun h => by rw [h] at e1; cases e1), hnc, hcm⟩
theorem own_trimQ {w : World} {base n c m : Nat} {E : TypeId} {A : Option Addr} {xs : List Int} (h : w.ownsRow base E 1 (.slice A n c) n (iv xs)) (hm : m ≤ n) (ht : trim xs = xs.take m) : w.ownsRow base E 1 (.slice A m c) (trim xs).length (iv (trim xs)) := by
  have hl : xs.length = n := by have := h.1; rw [iv_len] at this; omega
  have e : (trim xs).length = m := by rw [ht, List.length_take]; omega
  rw [e]
  rw [ht, show iv (xs.take m) = (iv xs).take m by simp [iv, List.map_take]]
  rcases own_form h with ⟨h', h0, hx0⟩ | ⟨g, c', h', _, _⟩
  · injection h' with h1 h2 h3
    subst h1 h3
    obtain rfl : m = 0 := by omega
    exact World.ownsRow_nil _ _ _ _
  · injection h' with h1 h2 h3
    subst h1 h3
    exact own_cut h hm
end Go.Proofs.Ytcainjgcfbgddaa
