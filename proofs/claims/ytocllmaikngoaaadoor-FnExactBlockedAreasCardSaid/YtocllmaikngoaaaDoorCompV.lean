/-
  slices.Compact, slices.Clone at lists of vectors: contracts.
-/
import Derived.Test.YtocllmaikngoaaaDoorSV
import Derived.Test.YtocllmaikngoaaaDoorEqV
import Derived.Test.YtocllmaikngoaaaDoorVecA
import Derived.Lib.SliceRun
namespace Go.Proofs.YtocllmaikngoaaaDoor
open Go.RowKit
set_option linter.unusedVariables false
theorem keep_setCells {lo hi g : Nat} {E : TypeId} {n c : Nat} {vs : List V2} : ∀ (us : List Value) (o : Nat) (W : World), n * 2 ≤ o → lo ≤ g → g < hi → W.ownsRow lo E 2 (.slice (some ⟨g, 0, none⟩) n c) n (fl vs) → (W.setCells g o us).ownsRow lo E 2 (.slice (some ⟨g, 0, none⟩) n c) n (fl vs) ∧ Aside lo hi W (W.setCells g o us) := by
  intro us
  induction us with
  | nil => intro o W _ _ _ h; exact ⟨h, Aside.refl _⟩
  | cons u us ih =>
    intro o W ho h1 h2 h
    have hs := (h.stored o u).1
    have e : (fl vs).set o u = fl vs := List.set_eq_of_length_le (by have := h.1; omega)
    rw [e] at hs
    obtain ⟨a, b⟩ := ih (o + 1) (W.setCell ⟨g, o, none⟩ u) (by omega) h1 h2 hs
    exact ⟨a, ((Aside.refl W).setCell (a := ⟨g, o, none⟩) h1 h2 u).trans b⟩
/-- clear of a list of vectors -/
theorem Tryd.clearV (w : World) (b o n c : Nat) (hn : 0 < n)
    (hc : ∀ j, j < n * 2 → (w.cell? ⟨b, o + j, none⟩).isSome = true) (hf : ∀ j, j < n * 2 → w.frozen? ⟨b, o + j, none⟩ = false) :
    ∃ us, ∀ ty, (Builtin.clear_ #[29] ty #[.slice (some ⟨b, o, none⟩) n c]).run Tryd.prog w = .ok (.tuple #[]) (w.setCells b o us) := by
  have hl : (Builtin.zeroCells #[Value.int .i64 0, Value.int .i64 0] n).toList.length = n * 2 := by simp [size_zeroCells]
  have hst := run_storeCells_cells (P := Tryd.prog) b o (Builtin.zeroCells #[Value.int .i64 0, Value.int .i64 0] n).toList 0 w (by intro j hj; exact hc j (by omega)) (by intro j hj; exact hf j (by omega)) (by
    intro v hv'
    obtain ⟨j, hj, rfl⟩ := List.getElem_of_mem hv'
    simp only [Builtin.zeroCells] at hj ⊢
    rcases Nat.mod_two_eq_zero_or_one j with e | e <;> simp [e, Value.oneCell'])
  simp only [Nat.add_zero] at hst
  obtain ⟨m, rfl⟩ : ∃ m, n = m + 1 := ⟨n - 1, by omega⟩
  have hz : (zeroValue 31).run Tryd.prog w = .ok (.agg #[.int .i64 0, .int .i64 0]) w := Tryd.zeroValue31 w
  refine ⟨(Builtin.zeroCells #[Value.int .i64 0, Value.int .i64 0] (m + 1)).toList, fun ty => ?_⟩
  simp [Builtin.clear_, run_underlying Tryd.underlying29, hz, Value.cells, hst]
theorem OwnV.dN {w : World} {lo hi n : Nat} {E : TypeId} {v : Value} {vs : List V2} (h : OwnV w lo hi E v n vs) (q : Nat) : OwnV (w.drewN q) lo hi E v n vs := ⟨own_grown h.1 (below_dN (Below.refl _ _) q), h.2⟩
theorem Aside.dN {w w' : World} {lo hi : Nat} (h : Aside lo hi w w') (q : Nat) : Aside lo hi w (w'.drewN q) := ⟨h.os, h.tape, h.output, h.size, h.block⟩
theorem take2_set {cur : List V2} {m : Nat} (hm : m < cur.length) (u : V2) : (cur.set m u).take (m + 1) = cur.take m ++ [u] := by
  rw [List.take_succ_eq_append_getElem (by simpa using hm), List.getElem_set_self]
  congr 1
  rw [List.take_set_of_le (Nat.le_refl _)]
/-- one vector of a list set -/
theorem OwnV.put {w : World} {lo hi g n c m : Nat} {E : TypeId} {cur : List V2} (h : OwnV w lo hi E (.slice (some ⟨g, 0, none⟩) n c) n cur) (hm : m < n) (x y : Int) :
    OwnV ((w.setCell ⟨g, m * 2, none⟩ (.int .i64 x)).setCell ⟨g, m * 2 + 1, none⟩ (.int .i64 y)) lo hi E (.slice (some ⟨g, 0, none⟩) n c) n (cur.set m (x, y)) := by
  refine ⟨?_, h.2⟩
  have h1 := (h.1.stored (m * 2) (.int .i64 x)).1
  have h2 := (h1.stored (m * 2 + 1) (.int .i64 y)).1
  have hl := h.len
  have e : ((fl cur).set (m * 2) (.int .i64 x)).set (m * 2 + 1) (.int .i64 y) = fl (cur.set m (x, y)) := by
    have l1 : (fl cur).length = cur.length * 2 := fl_len _
    have l2 : (fl (cur.set m (x, y))).length = cur.length * 2 := by rw [fl_len, List.length_set]
    apply List.ext_getElem?
    intro t
    by_cases ht : t < cur.length * 2
    · have hk : t / 2 < cur.length := by omega
      have hf := fl_at hk
      have hf2 := fl_at (vs := cur.set m (x, y)) (k := t / 2) (by rw [List.length_set]; exact hk)
      rw [List.getElem?_set, List.getElem?_set]
      simp only [List.length_set]
      rcases Nat.mod_two_eq_zero_or_one t with e | e
      · have et : t / 2 * 2 = t := by omega
        rw [et] at hf hf2
        rw [hf2.1, if_neg (by omega)]
        by_cases em : m = t / 2
        · rw [if_pos (by omega), if_pos (by omega), List.getElem_set, if_pos em]
        · rw [if_neg (by omega), hf.1, List.getElem_set, if_neg em]
      · have et : t / 2 * 2 + 1 = t := by omega
        rw [et] at hf hf2
        rw [hf2.2]
        by_cases em : m = t / 2
        · rw [if_pos (by omega), if_pos (by omega), List.getElem_set, if_pos em]
        · rw [if_neg (by omega), if_neg (by omega), hf.2, List.getElem_set, if_neg em]
    · rw [List.getElem?_eq_none (by simp; omega), List.getElem?_eq_none (by omega)]
  rw [e] at h2
  exact h2
theorem ascW_at {vs : List V2} (h : ascW vs) {i j : Nat} (hij : i < j) (hj : j < vs.length) : ¬ lt2 vs[j] (vs[i]'(by omega)) := List.pairwise_iff_getElem.1 h i j (by omega) hj hij
/-- what stands ahead of a greater element is less -/
theorem ascW_lt {vs : List V2} (h : ascW vs) {p : Nat} (hp : p + 1 < vs.length) (hne : vs[p + 1] ≠ vs[p]) : ∀ a ∈ vs.take (p + 1), lt2 a vs[p + 1] := by
  intro a ha
  obtain ⟨q, hq, rfl⟩ := List.getElem_of_mem ha
  simp at hq
  rw [List.getElem_take]
  have h1 : lt2 vs[p] vs[p + 1] := by
    rcases lt_tri vs[p] vs[p + 1] with k | k | k
    · exact k
    · exact (hne k.symm).elim
    · exact (ascW_at h (by omega) hp k).elim
  by_cases e : q = p
  · subst e; exact h1
  · have h2 := ascW_at h (show q < p by omega) (by omega)
    rcases lt_tri vs[q] vs[p] with k | k | k
    · exact lt_trans k h1
    · rw [k]; exact h1
    · exact (h2 k).elim
theorem asc_snoc' {xs : List V2} {p : V2} (h : asc xs) (hp : ∀ a ∈ xs, lt2 a p) : asc (xs ++ [p]) :=
  List.pairwise_append.2 ⟨h, by simp, fun a ha b hb => by simp at hb; subst hb; exact hp a ha⟩
set_option maxRecDepth 100000 in
set_option maxHeartbeats 1600000 in
theorem impl_Clone (w : World) (B : Nat) (hB : B ≤ w.heap.size) (A : Option Addr) (n c : Nat) (l : List V2) (R : RdV w B A n l) :
    Calls Tryd.prog 77 #[.slice A n c] w fun e w' => ∃ v, e = .returned v ∧ OwnV w' w.heap.size w'.heap.size 31 v n l ∧ Below w.heap.size w w' := by
  obtain ⟨hn, hx, hl, hwf⟩ := R
  cases A with
  | none =>
    have h0 : l = [] := by
      rcases hx with e | ⟨ad, e, _⟩
      · have := fl_len l
        rw [e] at this
        exact List.eq_nil_of_length_eq_zero (by simp at this; omega)
      · cases e
    subst h0
    have hn0 : n = 0 := by simpa using hn.symm
    subst hn0
    have hq : ∀ W, (binOp .eql 29 (.slice none 0 c) (.slice none 0 0)).run Tryd.prog W = .ok (.bool true) W := fun W => Lib.run_eql_slice_nil W 29 _ none 0 c 0 0 Tryd.underlying29
    go_enter Tryd.func77, Tryd.ntmps77
    go_wp2_with fail
    go_ret
    exact ⟨_, rfl, OwnV.nil _ _ _ _, Below.refl _ _⟩
  | some ad =>
    have hE := World.ownsRow_made (e := 31) (size := 2) w #[] 0 (Nat.le_refl _) (by unfold maxLen; omega) rfl
    have hb3 : Below w.heap.size w (w.alloc (.cells #[] 31)) := below_new _ _
    have R1 : Rd (w.alloc (.cells #[] 31)) w.heap.size (some ad) (fl l) := (hx.wider hB).below hb3
    have hf : (fl l).length = n * 2 := by rw [fl_len, hn]
    have hq : ∀ W, (binOp .eql 29 (.slice (some ad) n c) (.slice none 0 0)).run Tryd.prog W = .ok (.bool false) W := fun W => Lib.run_eql_slice_nil W 29 _ (some ad) n c 0 0 Tryd.underlying29
    go_enter Tryd.func77, Tryd.ntmps77
    go_wp2_with (at_builtin; refine wpList_append_rdS Tryd.sliceVec rfl _ _ rfl (w.alloc (.cells #[] 31)) w.heap.size _ 0 [] hE rfl _ _ n c (fl l) rfl hf R1 (fl_one _) (by unfold maxLen; omega) (by omega) (by rw [alloc_size]; omega) ?_; intro v4 w4 hown4 hb4)
    go_ret
    rw [List.nil_append, Nat.zero_add] at hown4
    exact ⟨_, rfl, OwnV.of hown4, hb3.trans hb4⟩
set_option maxRecDepth 100000 in
set_option maxHeartbeats 3200000 in
theorem impl_Compact (W : World) (lo hi : Nat) (E : TypeId) (A : Option Addr) (n c : Nat) (vs : List V2) (o : OwnV W lo hi E (.slice A n c) n vs) (ha : ascW vs) (hn : n ≤ 1048576) :
    Calls Tryd.prog 80 #[.slice A n c] W fun e w' => ∃ k ys, e = .returned (.slice A k c) ∧ OwnV w' lo hi E (.slice A k c) k ys ∧ asc ys ∧ (∀ a, a ∈ ys ↔ a ∈ vs) ∧ Aside lo hi W w' := by
  have hlen := o.len
  by_cases h2 : n < 2
  · have hasc : asc vs := by
      match vs, hlen with
      | [], _ => simp [asc]
      | [a], _ => simp [asc]
      | _ :: _ :: _, e => simp at e; omega
    go_enter Tryd.func80, Tryd.ntmps80
    go_wp2_with fail
    go_ret
    exact ⟨n, vs, rfl, o, hasc, fun a => Iff.rfl, Aside.refl _⟩
  obtain ⟨g, rfl⟩ : ∃ g, A = some ⟨g, 0, none⟩ := by
    rcases own_form o.1 with ⟨h1, h0, _⟩ | ⟨g, c', h1, _, _⟩
    · omega
    · injection h1 with e1 _ _; exact ⟨g, e1⟩
  have hbg := (o.1.lt g rfl).1
  have hgh := o.2 g rfl
  have hcap := o.cap
  have hc63 := hcap.2
  unfold maxLen at hc63
  have h2' : ¬ ((n : Int) < 2) := by omega
  go_enter Tryd.func80, Tryd.ntmps80
  go_wp2_with fail
  go_loopw [3] (fun i wr => ∃ k : Nat, 1 ≤ k ∧ k ≤ n ∧ i = .int .i64 k ∧ OwnV wr lo hi E (.slice (some ⟨g, 0, none⟩) n c) n vs ∧ Hid (asc (vs.take k)) ∧ Aside lo hi W wr) (fun i _ => n - (intOf i).toNat)
  case atStart =>
    refine ⟨1, Nat.le_refl _, by omega, rfl, o, ?_, Aside.refl _⟩
    show asc _
    match vs, hlen with
    | [], _ => simp [asc]
    | a :: r, _ => simp [asc]
  case round =>
    clear o
    obtain ⟨k, hk1, hk, rfl, o, HA, has⟩ := hrel
    by_cases hlt : k < n
    · obtain ⟨j, rfl⟩ : ∃ j, k = j + 1 := ⟨k - 1, by omega⟩
      have hjl : j < vs.length := by omega
      have hjl2 : j + 1 < vs.length := by omega
      have hc1 : wr.cell? ⟨g, j * 2, none⟩ = some (.int .i64 vs[j].1) := (o.1.cellAt (j * 2) (by omega)).trans (fl_at hjl).1
      have hc2 : wr.cell? ⟨g, j * 2 + 1, none⟩ = some (.int .i64 vs[j].2) := (o.1.cellAt (j * 2 + 1) (by omega)).trans (fl_at hjl).2
      have hc3 : wr.cell? ⟨g, (j + 1) * 2, none⟩ = some (.int .i64 vs[j + 1].1) := (o.1.cellAt ((j + 1) * 2) (by omega)).trans (fl_at hjl2).1
      have hc4 : wr.cell? ⟨g, (j + 1) * 2 + 1, none⟩ = some (.int .i64 vs[j + 1].2) := (o.1.cellAt ((j + 1) * 2 + 1) (by omega)).trans (fl_at hjl2).2
      have hi1 : ((j : Int) + 1 - 1) = (j : Int) := by omega
      have hi2 : 0 ≤ (j : Int) := Int.natCast_nonneg _
      have hi3 : (j : Int) < (n : Int) := by omega
      have hi4 : (j : Int) + 1 < (n : Int) := by omega
      have hi5 : 0 ≤ (j : Int) + 1 := by omega
      have hi7 : j < n := by omega
      have HE1 : Hid (vs[j] = (vs[j].1, vs[j].2)) := rfl
      have HE2 : Hid (vs[j + 1] = (vs[j + 1].1, vs[j + 1].2)) := rfl
      generalize vs[j].1 = x0 at *
      generalize vs[j].2 = y0 at *
      generalize vs[j + 1].1 = x1 at *
      generalize vs[j + 1].2 = y1 at *
      by_cases e1 : x1 = x0
      · by_cases e2 : y1 = y0
        · have HEQ : Hid (vs[j + 1] = vs[j]) := by show _ = _; rw [HE1.out, HE2.out, e1, e2]
          subst e1 e2
          have hck : ¬ c = j + 1 := by omega
          have hcj2 : (j : Int) + 1 ≤ (n : Int) := by omega
          go_wp2_with fail
          go_quiet (fail)
          have o2 := o.dN nq
          have has2 := has.dN nq
          generalize wr.drewN nq = w2 at o2 has2 ⊢
          clear hc1 hc2 hc3 hc4 o has
          have hasc := HA.out
          go_wp2_with fail
          obtain ⟨r, hr⟩ : ∃ r, r = n - (j + 1) := ⟨_, rfl⟩
          have hrn : n = j + 1 + r := by omega
          rw [← hr]
          have HM0 : Hid (∀ a, a ∈ vs.take (j + 1) ↔ a ∈ vs.take (j + 1 + 1)) := fun a => by
            rw [List.take_succ_eq_append_getElem hjl2, List.mem_append, List.mem_singleton]
            refine ⟨fun h => .inl h, fun h => ?_⟩
            rcases h with h | h
            · exact h
            · rw [h, HEQ.out, List.take_succ_eq_append_getElem hjl]
              exact List.mem_append_right _ (by simp)
          clear hr HEQ HE1 HE2
          go_loopw [3, 5] (fun mm ii wi => ∃ (m i : Nat) (cur : List V2), mm = .int .i64 m ∧ ii = .int .i64 i ∧ 1 ≤ m ∧ m ≤ j + i ∧ 1 ≤ i ∧ i ≤ r ∧ cur.length = n ∧ OwnV wi lo hi E (.slice (some ⟨g, 0, none⟩) n c) n cur ∧ Hid (asc (cur.take m)) ∧ Hid (∀ a, a ∈ cur.take m ↔ a ∈ vs.take (j + 1 + i)) ∧ Hid (∀ q (hq : q < cur.length) (hq2 : q < vs.length), j + 1 + i ≤ q + 1 → cur[q] = vs[q]) ∧ Aside lo hi W wi) (fun _ ii _ => r - (intOf ii).toNat)
          case atStart => exact ⟨j + 1, 1, vs, rfl, rfl, by omega, by omega, Nat.le_refl _, by omega, hlen, o2, HA, HM0, fun q _ _ _ => rfl, has2⟩
          case round =>
            clear o2 has2 HA HM0
            obtain ⟨m, i, cur, rfl, rfl, hm1, hmi, hi1', hir, hcl, o, HA2, HM, HC, has⟩ := hrel
            by_cases hil : i < r
            · obtain ⟨i', rfl⟩ : ∃ i', i = i' + 1 := ⟨i - 1, by omega⟩
              have hq1 : j + 1 + i' + 1 < vs.length := by omega
              have hq0 : j + 1 + i' < vs.length := by omega
              have hd3 : wr.cell? ⟨g, (j + 1) * 2 + (i' + 1) * 2, none⟩ = some (.int .i64 vs[j + 1 + i' + 1].1) := by
                rw [show (j + 1) * 2 + (i' + 1) * 2 = (j + 1 + i' + 1) * 2 by omega, ← HC.out (j + 1 + i' + 1) (by omega) hq1 (by omega)]
                exact (o.1.cellAt _ (by omega)).trans (fl_at (vs := cur) (by omega)).1
              have hd4 : wr.cell? ⟨g, (j + 1) * 2 + (i' + 1) * 2 + 1, none⟩ = some (.int .i64 vs[j + 1 + i' + 1].2) := by
                rw [show (j + 1) * 2 + (i' + 1) * 2 + 1 = (j + 1 + i' + 1) * 2 + 1 by omega, ← HC.out (j + 1 + i' + 1) (by omega) hq1 (by omega)]
                exact (o.1.cellAt _ (by omega)).trans (fl_at (vs := cur) (by omega)).2
              have hd1 : wr.cell? ⟨g, (j + 1) * 2 + i' * 2, none⟩ = some (.int .i64 vs[j + 1 + i'].1) := by
                rw [show (j + 1) * 2 + i' * 2 = (j + 1 + i') * 2 by omega, ← HC.out (j + 1 + i') (by omega) hq0 (by omega)]
                exact (o.1.cellAt _ (by omega)).trans (fl_at (vs := cur) (by omega)).1
              have hd2 : wr.cell? ⟨g, (j + 1) * 2 + i' * 2 + 1, none⟩ = some (.int .i64 vs[j + 1 + i'].2) := by
                rw [show (j + 1) * 2 + i' * 2 + 1 = (j + 1 + i') * 2 + 1 by omega, ← HC.out (j + 1 + i') (by omega) hq0 (by omega)]
                exact (o.1.cellAt _ (by omega)).trans (fl_at (vs := cur) (by omega)).2
              have HP1 : Hid (vs[j + 1 + i' + 1] = (vs[j + 1 + i' + 1].1, vs[j + 1 + i' + 1].2)) := rfl
              have HP0 : Hid (vs[j + 1 + i'] = (vs[j + 1 + i'].1, vs[j + 1 + i'].2)) := rfl
              have hn1 : 0 ≤ (i' : Int) := Int.natCast_nonneg _
              have hn2 : (i' : Int) + 1 - 1 = (i' : Int) := by omega
              have hn3 : (i' : Int) + 1 < (r : Int) := by omega
              have hn4 : (i' : Int) < (r : Int) := by omega
              have hn5 : i' < r := by omega
              have hmn : (m : Int) < (n : Int) := by omega
              have hm0 : (0 : Int) ≤ (m : Int) := Int.natCast_nonneg _
              generalize vs[j + 1 + i' + 1].1 = x3 at *
              generalize vs[j + 1 + i' + 1].2 = y3 at *
              generalize vs[j + 1 + i'].1 = x2 at *
              generalize vs[j + 1 + i'].2 = y2 at *
              by_cases e1 : x3 = x2
              · by_cases e2 : y3 = y2
                · have HMN : Hid (∀ a, a ∈ cur.take m ↔ a ∈ vs.take (j + 1 + (i' + 1 + 1))) := fun a => by
                    rw [HM.out a, show j + 1 + (i' + 1 + 1) = j + 1 + i' + 1 + 1 by omega, show j + 1 + (i' + 1) = j + 1 + i' + 1 by omega, List.take_succ_eq_append_getElem hq1, List.mem_append, List.mem_singleton]
                    refine ⟨fun h => .inl h, fun h => ?_⟩
                    rcases h with h | h
                    · exact h
                    · rw [h, HP1.out, e1, e2, ← HP0.out, List.take_succ_eq_append_getElem hq0]
                      exact List.mem_append_right _ (by simp)
                  subst e1 e2
                  go_wp2_with fail
                  go_quiet (fail)
                  go_wp2_with fail
                  go_roundw
                  case rel => exact ⟨m, i' + 1 + 1, cur, rfl, by go_num, by omega, by omega, by omega, by omega, hcl, o.dN _, HA2, HMN, fun q hq hq2 h => HC.out q hq hq2 (by omega), has.dN _⟩
                  case measure => simp [intOf] <;> omega
                · have he : (y3 == y2) = false := by simpa using e2
                  subst e1
                  have HP := hide (ascW_lt ha (p := j + 1 + i') (by omega))
                  have hdiff : vs[j + 1 + i' + 1] ≠ vs[j + 1 + i'] := by rw [HP1.out, HP0.out]; intro h; injection h with h1 h2; exact e2 h2
                  obtain ⟨⟨ux, cx⟩, ⟨uy, cy⟩, fx, fy⟩ : (∃ u, wr.cell? ⟨g, m * 2, none⟩ = some u) ∧ (∃ u, wr.cell? ⟨g, m * 2 + 1, none⟩ = some u) ∧ wr.frozen? ⟨g, m * 2, none⟩ = false ∧ wr.frozen? ⟨g, m * 2 + 1, none⟩ = false :=
                    ⟨⟨_, (o.1.cellAt (m * 2) (by omega)).trans (fl_at (vs := cur) (k := m) (by omega)).1⟩, ⟨_, (o.1.cellAt (m * 2 + 1) (by omega)).trans (fl_at (vs := cur) (k := m) (by omega)).2⟩, o.1.frozenAt _, o.1.frozenAt _⟩
                  have oP := hide (fun (q : Nat) => OwnV.put (o.dN q) (show m < n by omega) x3 y3)
                  have asP := hide (fun (q : Nat) => ((has.dN q).setCell (a := ⟨g, m * 2, none⟩) hbg hgh (.int .i64 x3)).setCell (a := ⟨g, m * 2 + 1, none⟩) hbg hgh (.int .i64 y3))
                  have hml : m < cur.length := by omega
                  have HLN : Hid ((cur.set m (x3, y3)).length = n) := by show _ = _; rw [List.length_set]; exact hcl
                  have HAN : Hid (asc ((cur.set m (x3, y3)).take (m + 1))) := by
                    show asc _
                    rw [take2_set hml]
                    refine asc_snoc' HA2.out fun a h => ?_
                    have := HP.out hdiff a ((HM.out a).1 h)
                    rwa [HP1.out] at this
                  have HMN : Hid (∀ a, a ∈ (cur.set m (x3, y3)).take (m + 1) ↔ a ∈ vs.take (j + 1 + (i' + 1 + 1))) := fun a => by
                    rw [take2_set hml, show j + 1 + (i' + 1 + 1) = j + 1 + i' + 1 + 1 by omega, List.take_succ_eq_append_getElem (show j + 1 + i' + 1 < vs.length by omega), List.mem_append, List.mem_append, HM.out a, show j + 1 + (i' + 1) = j + 1 + i' + 1 by omega, HP1.out]
                  have HCN : Hid (∀ q (hq : q < (cur.set m (x3, y3)).length) (hq2 : q < vs.length), j + 1 + (i' + 1 + 1) ≤ q + 1 → (cur.set m (x3, y3))[q] = vs[q]) := fun q hq hq2 h => by
                    rw [List.getElem_set_ne (by omega)]
                    exact HC.out q (by rw [List.length_set] at hq; exact hq) hq2 (by omega)
                  clear hdiff
                  go_wp2_with fail
                  go_quiet (fail)
                  have oP2 := oP.out nq
                  have asP2 := asP.out nq
                  have HPP := hide (And.intro oP2 asP2)
                  clear oP2 asP2 oP asP
                  go_wp2_with fail
                  go_roundw
                  case rel => exact ⟨m + 1, i' + 1 + 1, cur.set m (x3, y3), by go_num, by go_num, by omega, by omega, by omega, by omega, HLN.out, HPP.out.1, HAN, HMN, HCN, HPP.out.2⟩
                  case measure => simp [intOf] <;> omega
              · have he : (x3 == x2) = false := by simpa using e1
                have HP := hide (ascW_lt ha (p := j + 1 + i') (by omega))
                have hdiff : vs[j + 1 + i' + 1] ≠ vs[j + 1 + i'] := by rw [HP1.out, HP0.out]; intro h; injection h with h1 h2; exact e1 h1
                obtain ⟨⟨ux, cx⟩, ⟨uy, cy⟩, fx, fy⟩ : (∃ u, wr.cell? ⟨g, m * 2, none⟩ = some u) ∧ (∃ u, wr.cell? ⟨g, m * 2 + 1, none⟩ = some u) ∧ wr.frozen? ⟨g, m * 2, none⟩ = false ∧ wr.frozen? ⟨g, m * 2 + 1, none⟩ = false :=
                  ⟨⟨_, (o.1.cellAt (m * 2) (by omega)).trans (fl_at (vs := cur) (k := m) (by omega)).1⟩, ⟨_, (o.1.cellAt (m * 2 + 1) (by omega)).trans (fl_at (vs := cur) (k := m) (by omega)).2⟩, o.1.frozenAt _, o.1.frozenAt _⟩
                have oP := hide (fun (q : Nat) => OwnV.put (o.dN q) (show m < n by omega) x3 y3)
                have asP := hide (fun (q : Nat) => ((has.dN q).setCell (a := ⟨g, m * 2, none⟩) hbg hgh (.int .i64 x3)).setCell (a := ⟨g, m * 2 + 1, none⟩) hbg hgh (.int .i64 y3))
                have hml : m < cur.length := by omega
                have HLN : Hid ((cur.set m (x3, y3)).length = n) := by show _ = _; rw [List.length_set]; exact hcl
                have HAN : Hid (asc ((cur.set m (x3, y3)).take (m + 1))) := by
                  show asc _
                  rw [take2_set hml]
                  refine asc_snoc' HA2.out fun a h => ?_
                  have := HP.out hdiff a ((HM.out a).1 h)
                  rwa [HP1.out] at this
                have HMN : Hid (∀ a, a ∈ (cur.set m (x3, y3)).take (m + 1) ↔ a ∈ vs.take (j + 1 + (i' + 1 + 1))) := fun a => by
                  rw [take2_set hml, show j + 1 + (i' + 1 + 1) = j + 1 + i' + 1 + 1 by omega, List.take_succ_eq_append_getElem (show j + 1 + i' + 1 < vs.length by omega), List.mem_append, List.mem_append, HM.out a, show j + 1 + (i' + 1) = j + 1 + i' + 1 by omega, HP1.out]
                have HCN : Hid (∀ q (hq : q < (cur.set m (x3, y3)).length) (hq2 : q < vs.length), j + 1 + (i' + 1 + 1) ≤ q + 1 → (cur.set m (x3, y3))[q] = vs[q]) := fun q hq hq2 h => by
                  rw [List.getElem_set_ne (by omega)]
                  exact HC.out q (by rw [List.length_set] at hq; exact hq) hq2 (by omega)
                clear hdiff
                go_wp2_with fail
                go_quiet (fail)
                have oP2 := oP.out nq
                have asP2 := asP.out nq
                have HPP := hide (And.intro oP2 asP2)
                clear oP2 asP2 oP asP
                go_wp2_with fail
                go_roundw
                case rel => exact ⟨m + 1, i' + 1 + 1, cur.set m (x3, y3), by go_num, by go_num, by omega, by omega, by omega, by omega, HLN.out, HPP.out.1, HAN, HMN, HCN, HPP.out.2⟩
                case measure => simp [intOf] <;> omega
            · obtain rfl : i = r := by omega
              have hmn : m < n := by omega
              have hmc : ¬ c = m := by omega
              have hm0 : (0 : Int) ≤ (m : Int) := Int.natCast_nonneg _
              have hm2 : (m : Int) ≤ (n : Int) := by omega
              obtain ⟨us, hus⟩ := Tryd.clearV wr g (m * 2) (n - m) (c - m) (by omega) (fun q hq => by
                rw [o.1.cellAt (m * 2 + q) (by omega), List.getElem?_eq_getElem (by rw [fl_len]; omega)]; rfl) (fun q _ => o.1.frozenAt _)
              have oc := OwnV.cut o (m := m) (by omega)
              obtain ⟨o5, as5⟩ := keep_setCells us (m * 2) wr (Nat.le_refl _) hbg hgh oc.1
              have hfin : ∀ a, a ∈ cur.take m ↔ a ∈ vs := fun a => by rw [HM.out a, List.take_of_length_le (by omega)]
              clear hrn
              go_wp2_with fail
              go_ret
              exact ⟨m, cur.take m, rfl, ⟨o5, o.2⟩, HA2.out, hfin, has.trans as5⟩
        · have he : (y1 == y0) = false := by simpa using e2
          have HN : Hid (asc (vs.take (j + 1 + 1))) := by
            show asc _
            rw [List.take_succ_eq_append_getElem hjl2]
            exact asc_snoc' HA.out (ascW_lt ha hjl2 (by rw [HE1.out, HE2.out]; intro h; injection h with h1 h2; exact e2 h2))
          go_wp2_with fail
          go_quiet (fail)
          go_wp2_with fail
          go_roundw
          case rel => exact ⟨j + 1 + 1, by omega, by omega, by go_num, o.dN _, HN, has.dN _⟩
          case measure => simp [intOf] <;> omega
      · have he : (x1 == x0) = false := by simpa using e1
        have HN : Hid (asc (vs.take (j + 1 + 1))) := by
          show asc _
          rw [List.take_succ_eq_append_getElem hjl2]
          exact asc_snoc' HA.out (ascW_lt ha hjl2 (by rw [HE1.out, HE2.out]; intro h; injection h with h1 h2; exact e1 h1))
        go_wp2_with fail
        go_quiet (fail)
        go_wp2_with fail
        go_roundw
        case rel => exact ⟨j + 1 + 1, by omega, by omega, by go_num, o.dN _, HN, has.dN _⟩
        case measure => simp [intOf] <;> omega
    · obtain rfl : k = n := by omega
      have hasc : asc vs := by have := HA.out; rwa [List.take_of_length_le (by omega)] at this
      go_wp2_with fail
      go_ret
      exact ⟨k, vs, rfl, o, hasc, fun a => Iff.rfl, has⟩
end Go.Proofs.YtocllmaikngoaaaDoor
