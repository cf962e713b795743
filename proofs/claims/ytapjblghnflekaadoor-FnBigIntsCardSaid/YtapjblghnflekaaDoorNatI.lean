/-
  The program's natural numbers: contracts (1): splitSum, cutZeros, fitting, widened.
-/
import Derived.Test.YtapjblghnflekaaDoorG1
import Derived.Laws.CopyOwn
namespace Go.Proofs.YtapjblghnflekaaDoor
open Go.RowKit
set_option linter.unusedVariables false

theorem ret_ii {a b c d : Int} (h1 : a = b) (h2 : c = d) : Ending.returned (.tuple #[.int .i64 a, .int .i64 c]) = .returned (.tuple #[.int .i64 b, .int .i64 d]) := by rw [h1, h2]
theorem tdiv_neg_nat (t : Nat) : Int.tdiv (-(t : Int)) 1000000000 = -((t / 1000000000 : Nat) : Int) := by
  rw [Int.neg_tdiv]; rfl
set_option maxHeartbeats 400000 in
theorem impl_splitSum (w : World) (s : Int) (h1 : -4000000000000000000 ≤ s) (h2 : s ≤ 4000000000000000000) :
    Calls Tryd.prog 54 #[.int .i64 s] w fun e w' => e = .returned (.tuple #[.int .i64 (s % 1000000000), .int .i64 (s / 1000000000)]) ∧ w = w' := by
  by_cases h0 : 0 ≤ s
  · obtain ⟨N, rfl⟩ : ∃ N : Nat, s = (N : Int) := ⟨s.toNat, by omega⟩
    have hq : ¬ ((N : Int) < ((N / 1000000000 : Nat) : Int) * 1000000000) := by omega
    go_enter Tryd.func54, Tryd.ntmps54
    go_wp2_with fail
    go_ret2
    exact ⟨ret_ii (by omega) (by omega), rfl⟩
  · obtain ⟨N, rfl⟩ : ∃ N : Nat, s = -(N : Int) := ⟨(-s).toNat, by omega⟩
    have hd := tdiv_neg_nat N
    by_cases hr : N % 1000000000 = 0
    · have hq : ¬ (-(N : Int) < -((N / 1000000000 : Nat) : Int) * 1000000000) := by omega
      go_enter Tryd.func54, Tryd.ntmps54
      go_wp2_with fail
      go_ret2
      exact ⟨ret_ii (by omega) (by omega), rfl⟩
    · have hq : -(N : Int) < -((N / 1000000000 : Nat) : Int) * 1000000000 := by omega
      go_enter Tryd.func54, Tryd.ntmps54
      go_wp2_with fail
      go_ret2
      exact ⟨ret_ii (by omega) (by omega), rfl⟩

/-! ### cutZeros, fitting -/
theorem Own.cut3 {w : World} {lo hi n m c c' : Nat} {E : TypeId} {A : Option Addr} {xs : List Int} (o : Own w lo hi E (.slice A n c) n (iv xs)) (hm : m ≤ n) (hc : m ≤ c') (h0 : A = none → c' = 0) : Own w lo hi E (.slice A m c') m (iv (xs.take m)) := by
  have hl := o.len
  rw [iv_len] at hl
  refine ⟨by rw [iv_len, List.length_take]; omega, ?_⟩
  rcases o.2 with ⟨h1, h2⟩ | ⟨g, c2, cur, hv, hbg, hgh, h1, h2, hg, r⟩
  · injection h1 with h1 _ _
    subst h1
    obtain rfl := h0 rfl
    obtain rfl : m = 0 := by omega
    exact .inl ⟨rfl, rfl⟩
  · injection hv with hv _ _
    subst hv
    refine .inr ⟨g, c', cur, rfl, hbg, hgh, by omega, h2, hg, ?_⟩
    rw [show iv (xs.take m) = (iv xs).take m by simp [iv, List.map_take], ← r, List.take_take]
    congr 1; omega
/-- a slice without spare room -/
def Tight (v : Value) (n : Nat) : Prop := ∃ A, v = .slice A n n
set_option maxHeartbeats 800000 in
theorem impl_cutZeros (w : World) (lo hi : Nat) (A : Option Addr) (n c : Nat) (xs : List Int) (o : Own w lo hi 3 (.slice A n c) n (iv xs)) (hc : n ≤ c) (hcm : c ≤ maxLen) :
    Calls Tryd.prog 33 #[.slice A n c] w fun e w' => ∃ v, e = .returned v ∧ Own w' lo hi 3 v (trim xs).length (iv (trim xs)) ∧ Tight v (trim xs).length ∧ w = w' := by
  unfold maxLen at hcm
  have hn : xs.length = n := by have := o.len; rwa [iv_len] at this
  have hx := o.rd
  have hA : A = none → n = 0 := fun h => by
    rcases o.2 with ⟨h1, h2⟩ | ⟨g, c2, cur, hv, _⟩
    · exact h2
    · injection hv with hv _ _; rw [h] at hv; cases hv
  have HO := hide (fun m (hm : m ≤ n) => o.cut3 (m := m) (c' := m) hm (Nat.le_refl _) (fun h => by have := hA h; omega))
  clear o hA
  go_enter Tryd.func33, Tryd.ntmps33
  go_wp2_with fail
  go_loop [3] (fun i => ∃ k : Nat, k ≤ n ∧ i = .int .i64 k ∧ Hid (trim xs = trim (xs.take k))) (fun i => (intOf i).toNat)
  case atStart => exact ⟨n, Nat.le_refl _, rfl, by show _ = _; rw [List.take_of_length_le (by omega)]⟩
  case round =>
    obtain ⟨k, hk, rfl, H⟩ := hrel
    by_cases h0 : k = 0
    · subst h0
      have HT : Hid (trim xs = xs.take 0) := H.out
      clear H hx
      go_wp2_with fail
      go_ret
      refine ⟨_, rfl, ?_, ?_, rfl⟩
      · rw [HT.out]; exact HO.out 0 (Nat.zero_le _)
      · rw [HT.out]; exact ⟨_, rfl⟩
    · obtain ⟨j, rfl⟩ : ∃ j, k = j + 1 := ⟨k - 1, by omega⟩
      obtain ⟨ad, hA, hb1, hc1⟩ := hx.int (k := j) (by omega)
      by_cases hz : xs[j] = 0
      · have HN : Hid (trim xs = trim (xs.take j)) := H.out.trans (trim_take_step (by omega) hz)
        have hzb : (xs[j] == 0) = true := by simp [hz]
        clear H hx hz h0
        subst hA
        go_wp2_with fail
        go_round
        case rel => exact ⟨j, by omega, by go_num, HN⟩
        case measure => simp [intOf]
      · have HN : Hid (trim xs = xs.take (j + 1)) := H.out.trans (trim_take_end (by omega) hz)
        have hzb : (xs[j] == 0) = false := by simp [hz]
        have HL : Hid ((xs.take (j + 1)).length = j + 1) := by show _ = _; rw [List.length_take]; omega
        clear H hx hz h0
        subst hA
        go_wp2_with fail
        go_ret
        refine ⟨_, rfl, ?_, ?_, rfl⟩
        · rw [HN.out, HL.out]; exact HO.out (j + 1) hk
        · rw [HN.out, HL.out]; exact ⟨_, rfl⟩
set_option maxHeartbeats 800000 in
theorem impl_fitting (w : World) (lo hi : Nat) (A : Option Addr) (n c : Nat) (xs : List Int) (o : Own w lo hi 3 (.slice A n c) n (iv xs)) (hc : n ≤ c) (hcm : c ≤ 1000000) :
    Calls Tryd.prog 42 #[.slice A n c] w fun e w' => ∃ v, e = .returned v ∧ Own w' lo hi 3 v (capT xs).length (iv (capT xs)) ∧ w = w' := by
  have hn : xs.length = n := by have := o.len; rwa [iv_len] at this
  have hk : (trim xs).length ≤ n := by obtain ⟨k, h1, h2, _⟩ := trim_prefix xs; rw [h2, List.length_take]; omega
  have HZ := hide (impl_cutZeros w lo hi A n c xs o hc (by unfold maxLen; omega))
  by_cases h60 : (trim xs).length ≤ 60
  · have HC : Hid (capT xs = trim xs) := by show _ = _; rw [capT, if_pos h60]
    clear o
    go_enter Tryd.func42, Tryd.ntmps42
    go_wp2_with fail
    refine HZ.out.mono ?_
    rintro e w' ⟨v, rfl, o, ⟨A', rfl⟩, rfl⟩
    have HO := hide o
    clear o
    go_wp2_with fail
    go_ret
    exact ⟨_, rfl, by rw [HC.out]; exact HO.out, rfl⟩
  · have HC : Hid (capT xs = []) := by show _ = _; rw [capT, if_neg h60]
    clear o
    go_enter Tryd.func42, Tryd.ntmps42
    go_wp2_with fail
    refine HZ.out.mono ?_
    rintro e w' ⟨v, rfl, o, ⟨A', rfl⟩, rfl⟩
    have h60' : 60 < (trim xs).length := by omega
    clear o h60
    go_wp2_with fail
    go_ret
    exact ⟨_, rfl, by rw [HC.out]; exact Own.nil _ _ _ _, rfl⟩

/-! ### widened -/
theorem made_zeros (n : Nat) : (madeCells (Value.int .i64 0).cells (n * 1)).toList = iv (List.replicate n 0) := by
  apply List.ext_getElem
  · simp [madeCells, iv, Value.cells]
  · intro i h1 h2
    simp [madeCells, iv, Value.cells, Nat.mod_one]
theorem Tryd.sizeInt : (Tryd.prog.info? 3).map (·.size) = some 1 := by kernel_rfl
set_option maxHeartbeats 800000 in
theorem impl_widened (w : World) (B : Nat) (hB : B ≤ w.heap.size) (A : Option Addr) (n c m : Nat) (xs : List Int) (hn : xs.length = n) (hx : Rd w B A (iv xs)) (hnm : n ≤ m) (hm : m ≤ 1000000) :
    Calls Tryd.prog 52 #[.slice A n c, .int .i64 m] w fun e w' => ∃ g, e = .returned (.slice (some ⟨g, 0, none⟩) m m) ∧ w.heap.size ≤ g ∧ Blk w' g 3 (xs ++ List.replicate (m - n) 0) ∧ Below w.heap.size w w' := by
  obtain ⟨i0, hi0, hz0, hz1, hz2⟩ := info_parts Tryd.infoInt
  obtain ⟨w1, hmk, hown0, hg0⟩ := run_make_full (P := Tryd.prog) w w.heap.size 23 3 i0 _ 1 Tryd.underlying23 hi0 hz0 hz1 .i64 .i64 m (by rw [hz2]; omega) (by unfold maxLen; omega) (Nat.le_refl _)
  have hb0 : Below w.heap.size w w1 := (Below.refl _ _).grown hg0 (Nat.le_refl _) (fun k h => by cases h)
  rw [made_zeros] at hown0
  have hbk : Blk w1 w.heap.size 3 (List.replicate m 0) := by unfold Blk; rw [List.length_replicate]; exact hown0
  have HH := hide hbk.heap
  have hx1 := hx.below (hb0.mono hB)
  have HP : Hid (0 < (iv xs).length → ∃ ad, A = some ad ∧ ∀ j v, (iv xs)[j]? = some v → w1.cell? (ad.add j) = some v) := fun h => by
    rcases hx1 with e | ⟨ad, e, _, hc⟩
    · rw [e] at h; exact absurd h (Nat.lt_irrefl _)
    · exact ⟨ad, e, hc⟩
  have HR : Hid (splice (iv (List.replicate m 0)) 0 (iv xs) = iv (xs ++ List.replicate (m - n) 0)) := by
    show _ = _
    simp [splice, iv, List.map_append, hn]
  have HL : Hid ((xs ++ List.replicate (m - n) 0).length = m) := by show _ = _; simp; omega
  have HF : Hid (0 + (iv xs).length ≤ (iv (List.replicate m 0)).length) := by show _ ≤ _; rw [iv_len, iv_len, List.length_replicate]; omega
  have HM : Hid ((iv xs).length = Nat.min n m) := by show _ = _; rw [iv_len, hn]; exact (Nat.min_eq_left hnm).symm
  have HO1 : Hid (∀ v ∈ iv xs, v.oneCell' = true) := by
    intro v hv
    obtain ⟨d, _, rfl⟩ := List.mem_map.1 hv
    rfl
  clear hi0 hz0 hz1 hz2 hg0 hown0 hx hbk hx1
  go_enter Tryd.func52, Tryd.ntmps52
  go_wp2_with (with_reducible refine wpList_copy_splice rfl (.tmp 8) (.tmp 9) 23 23 rfl 3 Tryd.underlying23 Tryd.sizeInt _ _ _ _ _ _ rfl rfl w.heap.size 0 _ 3 HH.out (iv xs) HM.out (fun h => ⟨rfl, HP.out h⟩) HF.out HO1.out w.heap.size w hb0 (Nat.le_refl _) ?_; intro w2 HG2 hB2)
  go_ret
  refine ⟨_, rfl, Nat.le_refl _, ?_, hB2⟩
  have h2 := HG2.out
  rw [HR.out] at h2
  exact Blk.of_heap h2 (by rw [HL.out]; unfold maxLen; omega)
end Go.Proofs.YtapjblghnflekaaDoor
