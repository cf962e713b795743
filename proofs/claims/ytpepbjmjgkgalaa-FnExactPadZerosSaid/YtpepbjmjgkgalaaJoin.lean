/-
  What Join answers, of the program and of the reference, and the law's walk.
-/
import Derived.Test.YtpepbjmjgkgalaaMarkS
import Derived.Test.YtpepbjmjgkgalaaShelf
namespace Go.Proofs.Ytpepbjmjgkgalaa
open Go.RowKit
set_option linter.unusedVariables false

/-- the elements joined, by the library's word -/
def joinL (xs : List ByteArray) (by_ : ByteArray) : List UInt8 := Lib.join (xs.map (·.data.toList)) by_.data.toList
def joinB (xs : List ByteArray) (by_ : ByteArray) : ByteArray := ⟨(joinL xs by_).toArray⟩
theorem joinL_nil (s : ByteArray) : joinL [] s = [] := rfl
theorem joinL_one (x s : ByteArray) : joinL [x] s = x.data.toList := by simp [joinL, Lib.join_one]
theorem joinL_snoc {xs : List ByteArray} (h : xs ≠ []) (x s : ByteArray) : joinL (xs ++ [x]) s = joinL xs s ++ s.data.toList ++ x.data.toList := by
  match xs, h with
  | y :: r, _ => simp [joinL, Lib.join_cons, Lib.joinTail]
theorem joinL_len (xs : List ByteArray) (s : ByteArray) : (joinL xs s).length ≤ sumS xs + xs.length * s.size := by
  match xs with
  | [] => simp [joinL_nil]
  | y :: r =>
    have h3 : Lib.lens (r.map (·.data.toList)) = sumS r := by
      simp only [Lib.lens, sumS, List.map_map]
      congr 1
    have h4 : sumS (y :: r) = y.size + sumS r := by simp [sumS]
    rw [joinL, List.map_cons, Lib.join_cons, List.length_append, Lib.joinTail_length, ba_size, ba_size, h3, h4, List.length_map, List.length_cons, Nat.succ_mul, Nat.mul_comm]
    omega
theorem sumS_take_le (xs : List ByteArray) (k : Nat) : sumS (xs.take k) ≤ sumS xs := by
  have h := List.take_append_drop k xs
  have : sumS xs = sumS (xs.take k) + sumS (xs.drop k) := by
    conv => lhs; rw [← h]
    simp only [sumS, List.map_append, List.sum_append]
  omega

set_option maxHeartbeats 400000 in
theorem spec_Join (A : Option Addr) (n c B : Nat) (xs : List ByteArray) (s : ByteArray) (w : World) (hn : xs.length = n) (hx : Rd w B A (sv xs)) (hl : n ≤ 1048576) (hsum : sumS xs ≤ 1048576) (hs : s.size ≤ 1048576) :
    Calls Try.prog 21 #[.slice A n c, .string s] w fun e w' => e = .returned (.string (joinB xs s)) ∧ w = w' := by
  go_enter Try.func21, Try.ntmps21
  go_wp2
  go_loop [5, 10] (fun q i => ∃ (k : Nat) (S : ByteArray), k ≤ n ∧ i = .int .i64 k ∧ q = .string S ∧ S.size ≤ 1048576 + k * 1048576 ∧ Hid (S.data.toList = joinL (xs.take k) s)) (fun _ i => n - (intOf i).toNat)
  case atStart => exact ⟨0, ⟨#[]⟩, Nat.zero_le _, rfl, rfl, by decide, rfl⟩
  case round =>
    obtain ⟨k, S, hk, rfl, rfl, hS, H⟩ := hrel
    by_cases hlt : k < n
    · obtain ⟨ad, hA, hb1, hc1⟩ := hx.str (k := k) (by omega)
      have htk : xs.take (k + 1) = xs.take k ++ [xs[k]] := List.take_succ_eq_append_getElem (by omega)
      have hbound : (joinL (xs.take (k + 1)) s).length ≤ 1048576 + (k + 1) * 1048576 := by
        have h1 := joinL_len (xs.take (k + 1)) s
        have h2 := sumS_take_le xs (k + 1)
        have h3 : (xs.take (k + 1)).length = k + 1 := by rw [List.length_take]; omega
        rw [h3] at h1
        have h4 : (k + 1) * s.size ≤ (k + 1) * 1048576 := Nat.mul_le_mul_left _ hs
        omega
      have hxs : xs[k].size ≤ 1048576 := by
        have h2 := sumS_take_le xs (k + 1)
        rw [sumS_step (by omega)] at h2
        omega
      by_cases h0 : k = 0
      · subst h0
        have HN : Hid ((S ++ xs[0]).data.toList = joinL (xs.take 1) s) := by
          show _ = _
          rw [Go.Joins.data_append, H.out, htk]
          simp [joinL_nil, joinL_one]
        have HZ : Hid ((S ++ xs[0]).size ≤ 1048576 + 1 * 1048576) := by show _ ≤ _; rw [← ba_size, HN.out]; exact hbound
        have hc0 : w.cell? ad = some (.string xs[0]) := by rw [add_zero'] at hc1; exact hc1
        clear hx H htk hbound hc1
        subst hA
        go_wp2
        go_round
        case rel => exact ⟨1, _, by omega, rfl, rfl, HZ.out, HN⟩
        case measure => simp [intOf]; omega
      · have h0' : 0 < k := by omega
        have HN : Hid ((S ++ s ++ xs[k]).data.toList = joinL (xs.take (k + 1)) s) := by
          show _ = _
          rw [Go.Joins.data_append, Go.Joins.data_append, H.out, htk, joinL_snoc]
          intro e
          have := congrArg List.length e
          rw [List.length_take] at this
          have h9 : ([] : List ByteArray).length = 0 := rfl
          rw [h9] at this
          omega
        have HZ : Hid ((S ++ s ++ xs[k]).size ≤ 1048576 + (k + 1) * 1048576) := by show _ ≤ _; rw [← ba_size, HN.out]; exact hbound
        clear hx H htk hbound h0
        subst hA
        go_wp2
        go_round
        case rel => exact ⟨k + 1, _, by omega, by go_num, rfl, HZ.out, HN⟩
        case measure => simp [intOf]; omega
    · have HE : Hid (S = joinB xs s) := by
        have h1 := H.out
        rw [List.take_of_length_le (by omega)] at h1
        show S = ⟨(joinL xs s).toArray⟩
        rw [← h1]
      clear H
      go_wp2
      go_ret
      exact ⟨ret_string HE.out, rfl⟩

theorem join_bound (xs : List ByteArray) (s : ByteArray) (hl : xs.length ≤ 1048576) (hsum : sumS xs ≤ 1048576) (hs : s.size ≤ 1048576) : (joinL xs s).length ≤ 140737488355328 := by
  have h1 := joinL_len xs s
  have h2 : xs.length * s.size ≤ 1048576 * 1048576 := Nat.mul_le_mul hl hs
  omega

theorem joinWith_any (g n c : Nat) (xs : List ByteArray) (s : ByteArray) (w : World) (hn : xs.length = n) (hc : n ≤ c) (hcells : ∀ (j : Nat) x, xs[j]? = some x → w.cell? ⟨g, 0 + j, none⟩ = some (.string x)) (hg : g < w.heap.size) (hN : n ≤ 140737488355328) (hlen : (joinL xs s).length ≤ 140737488355328) :
    Calls Try.prog 30 #[.string s, .slice (some ⟨g, 0, none⟩) n c] w fun e w' => e = .returned (.string (joinB xs s)) ∧ Below w.heap.size w w' := by
  subst hn
  have HC := Try.strings_Join g 0 c xs s w hcells hg hN hc hlen
  clear hcells
  go_enter Try.func30, Try.ntmps30
  go_wp2_with (go_at_call 32; refine HC.mono ?_; rintro e w' ⟨rfl, hb⟩)
  go_ret
  exact ⟨rfl, hb⟩

theorem impl_Join (g n c base : Nat) (xs : List ByteArray) (s : ByteArray) (w : World) (E : TypeId) (hown : w.ownsRow base E 1 (.slice (some ⟨g, 0, none⟩) n c) n (sv xs)) (hl : n ≤ 1048576) (hsum : sumS xs ≤ 1048576) (hs : s.size ≤ 1048576) (hcap : n ≤ c) :
    Calls Try.prog 23 #[.slice (some ⟨g, 0, none⟩) n c, .string s] w fun e w' => e = .returned (.string (joinB xs s)) ∧ Below w.heap.size w w' := by
  have hn : xs.length = n := by have := hown.1; rw [sv_len] at this; omega
  have hg := (hown.lt g (by simp [Value.ownBlock])).2
  have hcells : ∀ (j : Nat) x, xs[j]? = some x → w.cell? ⟨g, 0 + j, none⟩ = some (.string x) := fun j x hj => by
    have hjl : j < n := by have := (List.getElem?_eq_some_iff.1 hj).1; omega
    rw [Nat.zero_add, hown.cellAt j (by omega)]
    simp [sv, hj]
  have HC := joinWith_any g n c xs s w hn hcap hcells hg (by omega) (join_bound xs s (by omega) hsum hs)
  clear hcells hown
  go_enter Try.func23, Try.ntmps23
  go_wp2_with (go_at_call 30; refine HC.mono ?_; rintro e w' ⟨rfl, hb⟩)
  go_ret
  exact ⟨rfl, hb⟩

set_option maxHeartbeats 800000 in
theorem FnExactJoin_walk (w : World) (a0 : Option Addr) (len0 cap0 : Nat) (z0 : List ByteArray) (h0 : IsStrs w a0 len0 cap0 z0) (s : ByteArray) (hs : s.size ≤ maxLen) :
    Calls Try.prog 7 #[.slice a0 len0 cap0, .string s] w fun e w' => e = .returned (.bool true) ∧ Below w.heap.size w w' := by
  obtain ⟨hx, hxl, hlm, hxs⟩ := h0.rd
  generalize z0.take len0 = xs at hx hxl hxs
  clear h0
  have hm := hs
  unfold maxLen at hm
  by_cases h : 1048576 < s.size
  · go_enter Try.func7, Try.ntmps7
    go_wp2
    go_ret
    exact ⟨rfl, Below.refl _ _⟩
  · have hS := szStringS_any a0 len0 cap0 _ 1048576 xs w hxl hx hlm (Nat.le_refl _) hxs
    go_enter Try.func7, Try.ntmps7
    go_wp2_with fail
    refine hS.mono ?_
    rintro e w' ⟨r, rfl, hF, rfl⟩
    clear hS
    by_cases hr : r < 0
    · go_wp2
      go_ret
      exact ⟨rfl, Below.refl _ _⟩
    · have hfit := hF.2 (by omega)
      have hn : len0 ≤ 1048576 := by omega
      have hsum : sumS xs ≤ 1048576 := by omega
      clear hfit hF
      go_wp2_with fail
      refine (toStringS_any a0 len0 cap0 _ xs w hxl hx (Nat.le_refl _) (by omega)).mono ?_
      rintro e w1 ⟨g1, rfl, ho1, hb1⟩
      have hx1 := own_rd ho1
      go_wp2_with fail
      refine (spec_Join _ len0 len0 _ xs s w1 hxl hx1 hn hsum (by omega)).mono ?_
      rintro e w' ⟨rfl, rfl⟩
      clear hx1
      go_wp2_with fail
      refine (toStringS_any a0 len0 cap0 _ xs w1 hxl (hx.below hb1) hb1.size (by omega)).mono ?_
      rintro e w2 ⟨g2, rfl, ho2, hb2⟩
      go_wp2_with fail
      refine (impl_Join g2 len0 len0 _ xs s w2 _ ho2 hn hsum (by omega) (Nat.le_refl _)).mono ?_
      rintro e w3 ⟨rfl, hb3⟩
      have hb13 : Below w.heap.size w w3 := (hb1.trans (hb2.mono hb1.size)).trans (hb3.mono (Nat.le_trans hb1.size hb2.size))
      have ho3 := own_grown ho2 hb3
      clear ho1 ho2
      have hq := str_eq (rfl : joinB xs s = joinB xs s)
      go_wp2_with fail
      refine (toStringS_any a0 len0 cap0 _ xs w3 hxl (hx.below hb13) hb13.size (by omega)).mono ?_
      rintro e w4 ⟨g4, rfl, ho4, hb4⟩
      have ho34 := own_grown ho3 hb4
      have hx3 := own_rd ho34
      have hx4 := own_rd ho4
      go_wp2_with fail
      refine (eqStringS_below _ _ len0 len0 _ _ xs xs _ w4 hxl hxl hx3 hx4 hlm hlm true (decide_eq_true rfl)).mono ?_
      rintro e w5 ⟨rfl, hb5⟩
      clear hx3 hx4 ho3 ho4 ho34
      go_wp2
      go_ret
      exact ⟨rfl, (hb13.trans (hb4.mono hb13.size)).trans (hb5.mono (Nat.le_trans hb13.size hb4.size))⟩
end Go.Proofs.Ytpepbjmjgkgalaa
