/-
  The texts NatT, NatR, NatR2, NatR3, NatR4, NatR5, NatR6, put together; each has its own heading below. No condition of ours.
-/
import Derived.Test.YtdcceppednngjaaGreatPB
/-
  The reference's natural numbers: contracts that both seats know: NatOk, l02Trim.
-/

namespace Go.Proofs.YtdcceppednngjaaGreat
open Go.RowKit
set_option linter.unusedVariables false

theorem l01In_all (n lo hi : Int) (w : World) (b : Bool) (h : Hid (b = decide (lo ≤ n ∧ n ≤ hi))) :
    Calls Tryz.prog 31 #[.int .i64 n, .int .i64 lo, .int .i64 hi] w fun e w' => e = .returned (.bool b) ∧ w = w' := by
  by_cases h1 : lo ≤ n
  · go_enter Tryz.func31, Tryz.ntmps31
    go_wp2
    go_ret
    exact ⟨ret_bool (a := decide (n ≤ hi)) (by rw [h.out]; simp [h1]), rfl⟩
  · go_enter Tryz.func31, Tryz.ntmps31
    go_wp2
    go_ret
    exact ⟨ret_bool (a := false) (by rw [h.out]; simp; omega), rfl⟩
set_option maxHeartbeats 800000 in
theorem spec_NatOk (w : World) (B : Nat) (hB : B ≤ w.heap.size) (A : Option Addr) (n c : Nat) (xs : List Int) (R : RdI w B A n xs) :
    Calls Tryz.prog 52 #[.slice A n c] w fun e w' => e = .returned (.bool (natB xs)) ∧ w = w' := by
  obtain ⟨hn, hx, hl, hwf⟩ := R
  go_enter Tryz.func52, Tryz.ntmps52
  go_wp2_with fail
  go_loop [7] (fun i => ∃ k : Nat, k ≤ n ∧ i = .int .i64 k ∧ Hid (∀ j (h : j < xs.length), j < k → 0 ≤ xs[j] ∧ xs[j] ≤ 999999999)) (fun i => n - (intOf i).toNat)
  case atStart => exact ⟨0, Nat.zero_le _, rfl, fun j _ h => absurd h (Nat.not_lt_zero _)⟩
  case round =>
    obtain ⟨k, hk, rfl, H⟩ := hrel
    by_cases hlt : k < n
    · obtain ⟨ad, hA, hb1, hc1⟩ := hx.int (k := k) (by omega)
      by_cases hd : 0 ≤ xs[k] ∧ xs[k] ≤ 999999999
      · have HN : Hid (∀ j (h : j < xs.length), j < k + 1 → 0 ≤ xs[j] ∧ xs[j] ≤ 999999999) := fun j h hj => by
          by_cases e : j = k
          · subst e; exact hd
          · exact H.out j h (by omega)
        have HI := hide (l01In_all xs[k] 0 999999999 w true (by show true = _; simp [hd]))
        clear hd H hx hwf
        subst hA
        go_wp2_with fail
        refine HI.out.mono ?_
        rintro e w' ⟨rfl, rfl⟩
        go_wp2_with fail
        go_round
        case rel => exact ⟨k + 1, by omega, by go_num, HN⟩
        case measure => simp [intOf]; omega
      · have HB := hide (natB_bad (k := k) (by omega) hd)
        have HI := hide (l01In_all xs[k] 0 999999999 w false (by show false = _; simpa using hd))
        clear hd H hx hwf
        subst hA
        go_wp2_with fail
        refine HI.out.mono ?_
        rintro e w' ⟨rfl, rfl⟩
        go_wp2_with fail
        go_ret
        exact ⟨ret_bool HB.out.symm, rfl⟩
    · have hL : Limbs xs := fun d hd => by
        obtain ⟨j, hj, rfl⟩ := List.getElem_of_mem hd
        exact H.out j hj (by omega)
      clear H
      by_cases h60 : n ≤ 60
      · by_cases h0 : n = 0
        · have HB : Hid (natB xs = true) := by
            have : xs = [] := List.eq_nil_of_length_eq_zero (by omega)
            subst this; rfl
          subst h0
          clear hx hwf hL
          go_wp2_with fail
          go_ret
          exact ⟨ret_bool HB.out.symm, rfl⟩
        · have HB := hide (natB_last (l := xs) (by omega) (by omega) hL)
          obtain ⟨ad, hA, hb1, hc1⟩ := hx.int (k := n - 1) (by omega)
          have hz : ((n : Int) == 0) = false := by simp; omega
          have e1 : xs[xs.length - 1]'(by omega) = xs[n - 1]'(by omega) := by congr 1; omega
          have HB' := hide (HB.out.trans (by rw [e1]))
          generalize xs[n - 1]'(by omega) = y at *
          have h0' : 0 < n := by omega
          clear HB e1 hx hwf hL h0
          subst hA
          go_wp2_with fail
          go_ret
          exact ⟨ret_bool HB'.out.symm, rfl⟩
      · have HB := hide (natB_long (l := xs) (by omega))
        have h60' : 60 < n := by omega
        clear hx hwf hL h60
        go_wp2_with fail
        go_ret
        exact ⟨ret_bool HB.out.symm, rfl⟩
set_option maxHeartbeats 800000 in
theorem spec_Trim (w : World) (B : Nat) (A : Option Addr) (n c : Nat) (xs : List Int) (hn : xs.length = n) (hx : Rd w B A (iv xs)) (hc : n ≤ c) (hcm : c ≤ maxLen) :
    Calls Tryz.prog 56 #[.slice A n c] w fun e w' => ∃ m, e = .returned (.slice A m c) ∧ m ≤ n ∧ trim xs = xs.take m ∧ w = w' := by
  unfold maxLen at hcm
  go_enter Tryz.func56, Tryz.ntmps56
  go_wp2_with fail
  go_loop [3] (fun i => ∃ k : Nat, k ≤ n ∧ i = .int .i64 k ∧ Hid (trim xs = trim (xs.take k))) (fun i => (intOf i).toNat)
  case atStart => exact ⟨n, Nat.le_refl _, rfl, by show _ = _; rw [List.take_of_length_le (by omega)]⟩
  case round =>
    obtain ⟨k, hk, rfl, H⟩ := hrel
    by_cases h0 : k = 0
    · subst h0
      have HT : Hid (trim xs = xs.take 0) := H.out
      clear H hx
      go_wp2_with fail
      go_ret
      exact ⟨0, rfl, Nat.zero_le _, HT.out, rfl⟩
    · obtain ⟨j, rfl⟩ : ∃ j, k = j + 1 := ⟨k - 1, by omega⟩
      obtain ⟨ad, hA, hb1, hc1⟩ := hx.int (k := j) (by omega)
      by_cases hz : xs[j] = 0
      · have HN : Hid (trim xs = trim (xs.take j)) := H.out.trans (trim_take_step (by omega) hz)
        have hzb : (xs[j] == 0) = true := by simp [hz]
        clear H hx hz h0
        subst hA
        go_wp2_with fail
        go_round
        case rel => exact ⟨j, by omega, by go_num, HN⟩
        case measure => simp [intOf]
      · have HN : Hid (trim xs = xs.take (j + 1)) := H.out.trans (trim_take_end (by omega) hz)
        have hzb : (xs[j] == 0) = false := by simp [hz]
        clear H hx hz h0
        subst hA
        go_wp2_with fail
        go_ret
        exact ⟨j + 1, rfl, by omega, HN.out, rfl⟩
end Go.Proofs.YtdcceppednngjaaGreat

/-
  The reference's natural numbers: contracts (1): NatOk, l02Trim, l02Cap, NatOf, l02Cmp, NatCmp.
-/

namespace Go.Proofs.YtdcceppednngjaaGreat
open Go.RowKit
set_option linter.unusedVariables false

/-! ### NatOf -/
set_option maxHeartbeats 400000 in
theorem spec_NatOf (w : World) (B : Nat) (hB : B ≤ w.heap.size) (n : Int) (hwf : (Lit.int .i64 n).wf = true) :
    Calls Tryz.prog 51 #[.int .i64 n] w fun e w' => ∃ v, e = .returned v ∧ w'.ownsRow w.heap.size 3 1 v (limbs n.toNat).length (iv (limbs n.toNat)) ∧ Below w.heap.size w w' := by
  obtain ⟨h1, h2⟩ := bounds_i64 hwf
  have hown0 := World.ownsRow_made (base := w.heap.size) (e := 3) (size := 1) w #[] 0 (Nat.le_refl _) (by unfold maxLen; omega) rfl
  have hb0 := (Below.refl w.heap.size w).alloc (Nat.le_refl _) (.cells #[] 3)
  by_cases h0 : n ≤ 0
  · have HL : Hid (limbs n.toNat = []) := by show _ = _; rw [show n.toNat = 0 by omega]; exact limbs_zero
    go_enter Tryz.func51, Tryz.ntmps51
    go_wp2_with fail
    refine wp_loop_rounds 1 ?_
    rw [rounds_succ]
    go_wp2_with fail
    go_ret
    exact ⟨_, rfl, by rw [HL.out]; exact hown0, hb0⟩
  · obtain ⟨N, rfl⟩ : ∃ N : Nat, n = (N : Int) := ⟨n.toNat, by omega⟩
    have HN : Hid (((N : Int)).toNat = N) := by show _ = _; omega
    go_enter Tryz.func51, Tryz.ntmps51
    go_wp2_with fail
    go_loopw [0, 3] (fun i v wr => ∃ (k : Nat) (acc : List Int), k ≤ N ∧ i = .int .i64 k ∧ wr.ownsRow w.heap.size 3 1 v acc.length (iv acc) ∧ w.heap.size ≤ wr.heap.size ∧ Below w.heap.size w wr ∧ Hid (limbs N = acc ++ limbs k) ∧ Hid (acc.length + (limbs k).length ≤ 3)) (fun i _ _ => (intOf i).toNat)
    case atStart =>
      refine ⟨N, [], Nat.le_refl _, rfl, hown0, by simp, hb0, rfl, ?_⟩
      show 0 + _ ≤ 3
      have := (limbs_len (n := N) (k := 3)).2 (by omega)
      omega
    case round =>
      clear hown0 hb0
      obtain ⟨k, acc, hk, rfl, hown, hsz, hbl, H, H3⟩ := hrel
      by_cases hlt : 0 < k
      · have HS : Hid (limbs N = (acc ++ [((k % 1000000000 : Nat) : Int)]) ++ limbs (k / 1000000000)) := by
          show _ = _
          rw [H.out, limbs_pos hlt, List.append_assoc]; rfl
        have H3' : Hid ((acc ++ [((k % 1000000000 : Nat) : Int)]).length + (limbs (k / 1000000000)).length ≤ 3) := by
          have := H3.out
          rw [limbs_pos hlt, List.length_cons] at this
          show _ ≤ 3
          rw [List.length_append, List.length_singleton]; omega
        have hacc : acc.length ≤ 3 := by have := H3.out; omega
        clear H H3
        go_wp2_with (at_builtin; refine wpList_append1 Tryz.sliceInt rfl _ _ rfl wr w.heap.size _ _ _ hown rfl #[.int .i64 ((k : Int) % 1000000000)] 1 rfl rfl (by simp [Value.oneCell']) (by omega) (by omega) hsz ?_; intro v' w1 hown1 hb1)
        have hs1 := hb1.size
        go_roundw
        case rel =>
          refine ⟨k / 1000000000, acc ++ [((k % 1000000000 : Nat) : Int)], by omega, by go_num, ?_, by omega, hbl.trans hb1, HS, H3'⟩
          simpa [iv] using hown1
        case measure => simp [intOf]; omega
      · obtain rfl : k = 0 := by omega
        have HE : Hid (limbs N = acc) := by show _ = _; rw [H.out, limbs_zero, List.append_nil]
        clear H H3
        go_wp2_with fail
        go_ret
        exact ⟨_, rfl, by rw [HN.out, HE.out]; exact hown, hbl⟩
end Go.Proofs.YtdcceppednngjaaGreat

/-
  The reference's natural numbers: contracts (2): l02Cmp, NatCmp, l02Add, NatAdd.
-/

namespace Go.Proofs.YtdcceppednngjaaGreat
open Go.RowKit
set_option linter.unusedVariables false

set_option maxHeartbeats 1600000 in
theorem spec_Cmp (w : World) (B : Nat) (A A' : Option Addr) (n m c c' : Nat) (xs ys : List Int) (hn : xs.length = n) (hm : ys.length = m) (hx : Rd w B A (iv xs)) (hy : Rd w B A' (iv ys)) (hl : n ≤ 100000000) (hl' : m ≤ 100000000) (hcx : Canon xs) (hcy : Canon ys) :
    Calls Tryz.prog 75 #[.slice A n c, .slice A' m c'] w fun e w' => e = .returned (.int .i64 (cmpV (val xs) (val ys))) ∧ ∃ d, w' = w.drewN d := by
  by_cases hnm : n = m
  · subst hnm
    go_enter Tryz.func75, Tryz.ntmps75
    go_wp2_with fail
    go_loopw [5] (fun i wr => ∃ k d : Nat, k ≤ n ∧ i = .int .i64 ((k : Int) - 1) ∧ wr = w.drewN d ∧ Hid (xs.drop k = ys.drop k)) (fun i _ => (intOf i + 1).toNat)
    case atStart => exact ⟨n, 0, Nat.le_refl _, rfl, rfl, by show _ = _; rw [List.drop_of_length_le (by omega), List.drop_of_length_le (by omega)]⟩
    case round =>
      obtain ⟨k, d, hk, rfl, rfl, H⟩ := hrel
      by_cases h0 : k = 0
      · subst h0
        have HE : Hid (cmpV (val xs) (val ys) = 0) := by
          have : xs = ys := H.out
          show _ = _
          rw [this]; exact cmpV_eq _
        clear H hx hy
        go_wp2_with fail
        go_ret
        exact ⟨ret_int HE.out.symm, d, rfl⟩
      · obtain ⟨j, rfl⟩ : ∃ j, k = j + 1 := ⟨k - 1, by omega⟩
        rw [show (((j + 1 : Nat) : Int) - 1) = (j : Int) by omega]
        obtain ⟨ad, hA, hb1, hc1⟩ := hx.int (k := j) (by omega)
        obtain ⟨ad', hA', hb2, hc2⟩ := hy.int (k := j) (by omega)
        have hj0 : (0 : Int) ≤ (j : Int) := Int.natCast_nonneg _
        have hj1 : (j : Int) < (n : Int) := by omega
        by_cases hlt : xs[j] < ys[j]
        · have HE := hide (cmpV_lt (cmp_at hcx.1 hcy.1 (by omega) (by omega) H.out hlt))
          clear H hx hy h0
          subst hA hA'
          go_wp2_with fail
          go_quiet (fail)
          go_wp2_with fail
          go_ret
          exact ⟨ret_int HE.out.symm, d + nq, World.drewN_drewN _ _ _⟩
        · by_cases hgt : ys[j] < xs[j]
          · have HE := hide (cmpV_gt (cmp_at hcy.1 hcx.1 (by omega) (by omega) H.out.symm hgt))
            have hd1 : decide (xs[j] < ys[j]) = false := decide_eq_false hlt
            clear H hx hy h0
            subst hA hA'
            go_wp2_with fail
            go_quiet (fail)
            go_wp2_with fail
            go_quiet (fail)
            go_wp2_with fail
            go_ret
            exact ⟨ret_int HE.out.symm, _, (by rw [World.drewN_drewN, World.drewN_drewN])⟩
          · have HN : Hid (xs.drop j = ys.drop j) := by
              show _ = _
              rw [List.drop_eq_getElem_cons (show j < xs.length by omega), List.drop_eq_getElem_cons (show j < ys.length by omega), H.out]
              congr 1; omega
            have hd1 : decide (xs[j] < ys[j]) = false := decide_eq_false hlt
            have hd2 : decide (ys[j] < xs[j]) = false := decide_eq_false hgt
            clear H hx hy h0
            subst hA hA'
            go_wp2_with fail
            go_quiet (fail)
            go_wp2_with fail
            go_quiet (fail)
            go_wp2_with fail
            go_roundw
            case rel => exact ⟨j, _, by omega, rfl, rfl, HN⟩
            case measure => simp [intOf]
  · have hq : ((n : Int) != (m : Int)) = true := by simp; omega
    by_cases hlt : n < m
    · have HE := hide (cmpV_lt (val_lt_len hcx.1 hcy (by omega)))
      clear hx hy hnm
      go_enter Tryz.func75, Tryz.ntmps75
      go_wp2_with fail
      go_ret
      exact ⟨ret_int HE.out.symm, 0, rfl⟩
    · have HE := hide (cmpV_gt (val_lt_len hcy.1 hcx (by omega)))
      have hgt : m < n := by omega
      clear hx hy hnm hlt
      go_enter Tryz.func75, Tryz.ntmps75
      go_wp2_with fail
      go_ret
      exact ⟨ret_int HE.out.symm, 0, rfl⟩
end Go.Proofs.YtdcceppednngjaaGreat

/-
  The reference's natural numbers: contracts (3): l02Add, NatAdd.
-/

namespace Go.Proofs.YtdcceppednngjaaGreat
open Go.RowKit
set_option linter.unusedVariables false

set_option maxHeartbeats 3200000 in
theorem spec_Add (w : World) (B : Nat) (hB : B ≤ w.heap.size) (A A' : Option Addr) (n m c c' : Nat) (xs ys : List Int) (hn : xs.length = n) (hm : ys.length = m) (hx : Rd w B A (iv xs)) (hy : Rd w B A' (iv ys)) (hl : n ≤ 100000000) (hl' : m ≤ 100000000) (hlx : Limbs xs) (hly : Limbs ys) :
    Calls Tryz.prog 79 #[.slice A n c, .slice A' m c'] w fun e w' => ∃ v acc, e = .returned v ∧ w'.ownsRow w.heap.size 3 1 v acc.length (iv acc) ∧ Limbs acc ∧ val acc = val xs + val ys ∧ acc.length ≤ n + m + 1 ∧ Below w.heap.size w w' := by
  have hown0 := World.ownsRow_made (base := w.heap.size) (e := 3) (size := 1) w #[] 0 (Nat.le_refl _) (by unfold maxLen; omega) rfl
  have hb0 := (Below.refl w.heap.size w).alloc (Nat.le_refl _) (.cells #[] 3)
  go_enter Tryz.func79, Tryz.ntmps79
  go_wp2_with fail
  go_loopw [5, 6, 7] (fun v cq i wr => ∃ (k : Nat) (q : Int) (acc : List Int), i = .int .i64 k ∧ cq = .int .i64 q ∧ 0 ≤ q ∧ q ≤ 1 ∧ k ≤ n + m + 1 ∧ (k ≤ n + m ∨ q = 0) ∧ wr.ownsRow w.heap.size 3 1 v k (iv acc) ∧ w.heap.size ≤ wr.heap.size ∧ Below w.heap.size w wr ∧ Hid (Sum xs ys acc k q)) (fun _ _ i _ => n + m + 2 - (intOf i).toNat)
  case atStart => exact ⟨0, 0, [], rfl, rfl, by omega, by omega, by omega, by omega, hown0, by simp, hb0, ⟨rfl, Limbs.nil, by simp [val]⟩⟩
  case round =>
    clear hown0 hb0
    obtain ⟨k, q, acc, rfl, rfl, hq0, hq1, hk, hkq, hown, hsz, hbl, S⟩ := hrel
    have hrx := hx.below (hbl.mono hB)
    have hry := hy.below (hbl.mono hB)
    by_cases hkn : k < n
    · by_cases hkm : k < m
      · obtain ⟨ad, hA, hb1, hc1⟩ := hrx.int (k := k) (by omega)
        have hxb := hlx xs[k] (List.getElem_mem _)
        have gx := getD_in (l := xs) (k := k) (by omega)
        obtain ⟨ad', hA', hb2, hc2⟩ := hry.int (k := k) (by omega)
        have hyb := hly ys[k] (List.getElem_mem _)
        have gy := getD_in (l := ys) (k := k) (by omega)
        have HS := hide (S.out.next gx gy (N := q + xs[k] + ys[k]) (by omega) (by omega))
        generalize xs[k] = x at *
        generalize ys[k] = y at *
        clear gx gy S hrx hry hx hy hlx hly
        subst hA hA'
        obtain ⟨hx0, hx1⟩ := hxb
        obtain ⟨hy0, hy1⟩ := hyb
        go_wp2_with (at_builtin; refine wpList_append1 Tryz.sliceInt rfl _ _ rfl wr w.heap.size _ _ _ hown rfl #[.int .i64 ((q + x + y) % 1000000000)] 1 rfl rfl (by simp [Value.oneCell']) (by omega) (by omega) hsz ?_; intro v' w1 hown1 hb4)
        have hs1 := hb4.size
        go_roundw
        case rel => exact ⟨k + 1, (q + x + y) / 1000000000, acc ++ [(q + x + y) % 1000000000], by go_num, rfl, by omega, by omega, by omega, by omega, by simpa [iv] using hown1, by omega, hbl.trans hb4, HS⟩
        case measure => simp [intOf]; omega
      · obtain ⟨ad, hA, hb1, hc1⟩ := hrx.int (k := k) (by omega)
        have hxb := hlx xs[k] (List.getElem_mem _)
        have gx := getD_in (l := xs) (k := k) (by omega)
        have gy := getD_out (l := ys) (k := k) (by omega)
        have HS := hide (S.out.next gx gy (N := q + xs[k]) (by omega) (by omega))
        generalize xs[k] = x at *
        clear gx gy S hrx hry hx hy hlx hly
        subst hA
        obtain ⟨hx0, hx1⟩ := hxb
        go_wp2_with (at_builtin; refine wpList_append1 Tryz.sliceInt rfl _ _ rfl wr w.heap.size _ _ _ hown rfl #[.int .i64 ((q + x) % 1000000000)] 1 rfl rfl (by simp [Value.oneCell']) (by omega) (by omega) hsz ?_; intro v' w1 hown1 hb4)
        have hs1 := hb4.size
        go_roundw
        case rel => exact ⟨k + 1, (q + x) / 1000000000, acc ++ [(q + x) % 1000000000], by go_num, rfl, by omega, by omega, by omega, by omega, by simpa [iv] using hown1, by omega, hbl.trans hb4, HS⟩
        case measure => simp [intOf]; omega
    · by_cases hkm : k < m
      · have gx := getD_out (l := xs) (k := k) (by omega)
        obtain ⟨ad', hA', hb2, hc2⟩ := hry.int (k := k) (by omega)
        have hyb := hly ys[k] (List.getElem_mem _)
        have gy := getD_in (l := ys) (k := k) (by omega)
        have HS := hide (S.out.next gx gy (N := q + ys[k]) (by omega) (by omega))
        generalize ys[k] = y at *
        clear gx gy S hrx hry hx hy hlx hly
        subst hA'
        obtain ⟨hy0, hy1⟩ := hyb
        go_wp2_with (at_builtin; refine wpList_append1 Tryz.sliceInt rfl _ _ rfl wr w.heap.size _ _ _ hown rfl #[.int .i64 ((q + y) % 1000000000)] 1 rfl rfl (by simp [Value.oneCell']) (by omega) (by omega) hsz ?_; intro v' w1 hown1 hb4)
        have hs1 := hb4.size
        go_roundw
        case rel => exact ⟨k + 1, (q + y) / 1000000000, acc ++ [(q + y) % 1000000000], by go_num, rfl, by omega, by omega, by omega, by omega, by simpa [iv] using hown1, by omega, hbl.trans hb4, HS⟩
        case measure => simp [intOf]; omega
      · by_cases hq : 0 < q
        · have gx := getD_out (l := xs) (k := k) (by omega)
          have gy := getD_out (l := ys) (k := k) (by omega)
          have HS := hide (S.out.next gx gy (N := q) (by omega) (by omega))
          clear gx gy S hrx hry hx hy hlx hly
          go_wp2_with (at_builtin; refine wpList_append1 Tryz.sliceInt rfl _ _ rfl wr w.heap.size _ _ _ hown rfl #[.int .i64 ((q) % 1000000000)] 1 rfl rfl (by simp [Value.oneCell']) (by omega) (by omega) hsz ?_; intro v' w1 hown1 hb4)
          have hs1 := hb4.size
          go_roundw
          case rel => exact ⟨k + 1, (q) / 1000000000, acc ++ [(q) % 1000000000], by go_num, rfl, by omega, by omega, by omega, by omega, by simpa [iv] using hown1, by omega, hbl.trans hb4, HS⟩
          case measure => simp [intOf]; omega
        · obtain rfl : q = 0 := by omega
          obtain ⟨s1, s2, s3⟩ := S.out
          have HV : Hid (val acc = val xs + val ys) := by
            show _ = _
            rw [List.take_of_length_le (by omega), List.take_of_length_le (by omega)] at s3
            rw [← s3]; simp
          have HL := hide s2
          have HK := hide s1
          clear s1 s2 s3 S hrx hry hx hy hlx hly
          go_wp2_with fail
          go_ret
          exact ⟨_, rfl, acc, by rw [HK.out]; exact hown, HL.out, HV.out, by rw [HK.out]; exact hk, hbl⟩
end Go.Proofs.YtdcceppednngjaaGreat

/-
  The reference's natural numbers: contracts (4): l02Trim on the call's own, l02Sub, NatSub.
-/

namespace Go.Proofs.YtdcceppednngjaaGreat
open Go.RowKit
set_option linter.unusedVariables false

set_option maxHeartbeats 400000 in
theorem spec_TrimOwn (w : World) (lo n c : Nat) (A : Option Addr) (xs : List Int) (ho : w.ownsRow lo 3 1 (.slice A n c) n (iv xs)) :
    Calls Tryz.prog 56 #[.slice A n c] w fun e w' => ∃ v, e = .returned v ∧ w.ownsRow lo 3 1 v (trim xs).length (iv (trim xs)) ∧ w = w' := by
  have hn : xs.length = n := by have := ho.1; rw [iv_len] at this; omega
  have hcc : n ≤ c ∧ c ≤ maxLen := by
    rcases ho.2 with ⟨h', h0⟩ | ⟨g', c', cur, hv, _, _, hnc, hcm, _⟩
    · injection h' with h1 h2 h3; subst h3; unfold maxLen; omega
    · injection hv with h1 h2 h3; subst h3; exact ⟨hnc, hcm⟩
  refine (spec_Trim w w.heap.size A n c xs hn (own_rd ho) hcc.1 hcc.2).mono ?_
  rintro e w' ⟨m, rfl, hm, hT, rfl⟩
  have hml : (trim xs).length = m := by rw [hT, List.length_take]; omega
  refine ⟨_, rfl, ?_, rfl⟩
  rw [hml, hT]
  rcases own_form ho with ⟨h', h0, hx0⟩ | ⟨g, c', h', _, _⟩
  · injection h' with h1 h2 h3
    subst h1 h3
    obtain rfl : m = 0 := by omega
    exact World.ownsRow_nil _ _ _ _
  · injection h' with h1 h2 h3
    subst h1 h3
    have := own_cut ho hm
    rwa [show iv (xs.take m) = (iv xs).take m by simp [iv, List.map_take]]
set_option maxHeartbeats 1200000 in
theorem spec_Sub (w : World) (B : Nat) (hB : B ≤ w.heap.size) (A A' : Option Addr) (n m c c' : Nat) (xs ys : List Int) (hn : xs.length = n) (hm : ys.length = m) (hx : Rd w B A (iv xs)) (hy : Rd w B A' (iv ys)) (hl : n ≤ 100000000) (hcx : Canon xs) (hcy : Canon ys) (hle : val ys ≤ val xs) :
    Calls Tryz.prog 78 #[.slice A n c, .slice A' m c'] w fun e w' => ∃ v, e = .returned v ∧ w'.ownsRow w.heap.size 3 1 v (limbs (val xs - val ys).toNat).length (iv (limbs (val xs - val ys).toNat)) ∧ Below w.heap.size w w' := by
  have hown0 := World.ownsRow_made (base := w.heap.size) (e := 3) (size := 1) w #[] 0 (Nat.le_refl _) (by unfold maxLen; omega) rfl
  have hb0 := (Below.refl w.heap.size w).alloc (Nat.le_refl _) (.cells #[] 3)
  have hlx := hcx.1
  have hly := hcy.1
  have hmn : m ≤ n := by
    rcases Nat.lt_or_ge n m with h | h
    · have := val_lt_len hcx.1 hcy (by omega); omega
    · exact h
  have HD := hide (fun acc q (S : Dif xs ys acc xs.length q) hq => S.done (by omega) hq hle)
  clear hcx hcy hle
  go_enter Tryz.func78, Tryz.ntmps78
  go_wp2_with fail
  go_loopw [5, 6, 12] (fun v cq i wr => ∃ (k : Nat) (q : Int) (acc : List Int), k ≤ n ∧ i = .int .i64 k ∧ cq = .int .i64 q ∧ 0 ≤ q ∧ q ≤ 1 ∧ wr.ownsRow w.heap.size 3 1 v k (iv acc) ∧ w.heap.size ≤ wr.heap.size ∧ Below w.heap.size w wr ∧ Hid (Dif xs ys acc k q)) (fun _ _ i _ => n - (intOf i).toNat)
  case atStart => exact ⟨0, 0, [], Nat.zero_le _, rfl, rfl, by omega, by omega, hown0, by simp, hb0, ⟨rfl, Limbs.nil, by simp [val]⟩⟩
  case round =>
    clear hown0 hb0
    obtain ⟨k, q, acc, hk, rfl, rfl, hq0, hq1, hown, hsz, hbl, S⟩ := hrel
    have hrx := hx.below (hbl.mono hB)
    have hry := hy.below (hbl.mono hB)
    by_cases hkn : k < n
    · obtain ⟨ad, hA, hb1, hc1⟩ := hrx.int (k := k) (by omega)
      obtain ⟨hx0, hx1⟩ := hlx xs[k] (List.getElem_mem _)
      have gx := getD_in (l := xs) (k := k) (by omega)
      generalize xs[k] = x at *
      by_cases hkm : k < m
      · obtain ⟨ad', hA', hb2, hc2⟩ := hry.int (k := k) (by omega)
        obtain ⟨hy0, hy1⟩ := hly ys[k] (List.getElem_mem _)
        have gy := getD_in (l := ys) (k := k) (by omega)
        generalize ys[k] = y at *
        by_cases hneg : x - q - y < 0
        · skip
          have HS := hide (S.out.next gx gy (d := x - q - y + 1000000000) (q' := 1) (by omega) (by omega) (by omega))
          clear gx gy S hrx hry hx hy hlx hly
          subst hA hA'
          go_wp2_with (at_builtin; refine wpList_append1 Tryz.sliceInt rfl _ _ rfl wr w.heap.size _ _ _ hown rfl #[.int .i64 (x - q - y + 1000000000)] 1 rfl rfl (by simp [Value.oneCell']) (by omega) (by omega) hsz ?_; intro v' w1 hown1 hb4)
          have hs1 := hb4.size
          go_roundw
          case rel => exact ⟨k + 1, 1, acc ++ [x - q - y + 1000000000], by omega, by go_num, rfl, by omega, by omega, by simpa [iv] using hown1, by omega, hbl.trans hb4, HS⟩
          case measure => simp [intOf]; omega
        · skip
          have HS := hide (S.out.next gx gy (d := x - q - y) (q' := 0) (by omega) (by omega) (by omega))
          clear gx gy S hrx hry hx hy hlx hly
          subst hA hA'
          go_wp2_with (at_builtin; refine wpList_append1 Tryz.sliceInt rfl _ _ rfl wr w.heap.size _ _ _ hown rfl #[.int .i64 (x - q - y)] 1 rfl rfl (by simp [Value.oneCell']) (by omega) (by omega) hsz ?_; intro v' w1 hown1 hb4)
          have hs1 := hb4.size
          go_roundw
          case rel => exact ⟨k + 1, 0, acc ++ [x - q - y], by omega, by go_num, rfl, by omega, by omega, by simpa [iv] using hown1, by omega, hbl.trans hb4, HS⟩
          case measure => simp [intOf]; omega
      · have gy := getD_out (l := ys) (k := k) (by omega)
        by_cases hneg : x - q < 0
        · skip
          have HS := hide (S.out.next gx gy (d := x - q + 1000000000) (q' := 1) (by omega) (by omega) (by omega))
          clear gx gy S hrx hry hx hy hlx hly
          subst hA
          go_wp2_with (at_builtin; refine wpList_append1 Tryz.sliceInt rfl _ _ rfl wr w.heap.size _ _ _ hown rfl #[.int .i64 (x - q + 1000000000)] 1 rfl rfl (by simp [Value.oneCell']) (by omega) (by omega) hsz ?_; intro v' w1 hown1 hb4)
          have hs1 := hb4.size
          go_roundw
          case rel => exact ⟨k + 1, 1, acc ++ [x - q + 1000000000], by omega, by go_num, rfl, by omega, by omega, by simpa [iv] using hown1, by omega, hbl.trans hb4, HS⟩
          case measure => simp [intOf]; omega
        · skip
          have HS := hide (S.out.next gx gy (d := x - q) (q' := 0) (by omega) (by omega) (by omega))
          clear gx gy S hrx hry hx hy hlx hly
          subst hA
          go_wp2_with (at_builtin; refine wpList_append1 Tryz.sliceInt rfl _ _ rfl wr w.heap.size _ _ _ hown rfl #[.int .i64 (x - q)] 1 rfl rfl (by simp [Value.oneCell']) (by omega) (by omega) hsz ?_; intro v' w1 hown1 hb4)
          have hs1 := hb4.size
          go_roundw
          case rel => exact ⟨k + 1, 0, acc ++ [x - q], by omega, by go_num, rfl, by omega, by omega, by simpa [iv] using hown1, by omega, hbl.trans hb4, HS⟩
          case measure => simp [intOf]; omega
    · obtain rfl : k = n := by omega
      have HV : Hid (trim acc = limbs (val xs - val ys).toNat) := by
        have S' := S.out
        rw [← hn] at S'
        have hv := HD.out acc q S' (by omega)
        have h0 := val_nonneg S'.2.1
        exact trim_eq S'.2.1 (by omega)
      have hal : acc.length = k := S.out.1
      have hown' : wr.ownsRow w.heap.size 3 1 u5 acc.length (iv acc) := by rw [hal]; exact hown
      obtain ⟨A2, c2, rfl, _, _, _⟩ := own_reads hown'
      have HT := hide (spec_TrimOwn wr _ _ c2 A2 acc hown')
      clear hal hown hown' S hrx hry hx hy hlx hly HD
      have HB := hide hbl
      clear hbl
      rw [HV.out] at HT
      go_wp2_with fail
      refine HT.out.mono ?_
      rintro e w' ⟨v2, rfl, hown2, rfl⟩
      go_wp2_with fail
      go_ret
      exact ⟨_, rfl, hown2, HB.out⟩
end Go.Proofs.YtdcceppednngjaaGreat

/-
  The reference's natural numbers: contracts (5): l02Mul, NatMul.
-/

namespace Go.Proofs.YtdcceppednngjaaGreat
open Go.RowKit
set_option linter.unusedVariables false

set_option maxHeartbeats 600000 in
theorem spec_Mul (w : World) (B : Nat) (hB : B ≤ w.heap.size) (A A' : Option Addr) (n m c c' : Nat) (xs ys : List Int) (hn : xs.length = n) (hm : ys.length = m) (hx : Rd w B A (iv xs)) (hy : Rd w B A' (iv ys)) (hl : n ≤ 1000000) (hl' : m ≤ 1000000) (hlx : Limbs xs) (hly : Limbs ys) :
    Calls Tryz.prog 39 #[.slice A n c, .slice A' m c'] w fun e w' => ∃ v, e = .returned v ∧ w'.ownsRow w.heap.size 3 1 v (limbs (val xs * val ys).toNat).length (iv (limbs (val xs * val ys).toNat)) ∧ Below w.heap.size w w' := by
  by_cases hn0 : n = 0
  · have HE : Hid (limbs (val xs * val ys).toNat = []) := by
      have : xs = [] := List.eq_nil_of_length_eq_zero (by omega)
      subst this
      show limbs (0 * val ys).toNat = []
      rw [Int.zero_mul]; exact limbs_zero
    subst hn0
    clear hx hy hlx hly
    go_enter Tryz.func39, Tryz.ntmps39
    go_wp2_with fail
    go_ret
    exact ⟨_, rfl, by rw [HE.out]; exact World.ownsRow_nil _ _ _ _, Below.refl _ _⟩
  by_cases hm0 : m = 0
  · have HE : Hid (limbs (val xs * val ys).toNat = []) := by
      have : ys = [] := List.eq_nil_of_length_eq_zero (by omega)
      subst this
      show limbs (val xs * 0).toNat = []
      rw [Int.mul_zero]; exact limbs_zero
    subst hm0
    have hzn : ((n : Int) == 0) = false := by simp; omega
    clear hx hy hlx hly hn0
    go_enter Tryz.func39, Tryz.ntmps39
    go_wp2_with fail
    go_ret
    exact ⟨_, rfl, by rw [HE.out]; exact World.ownsRow_nil _ _ _ _, Below.refl _ _⟩
  have hzn : ((n : Int) == 0) = false := by simp; omega
  have hzm : ((m : Int) == 0) = false := by simp; omega
  have hnp : 0 < n := by omega
  have hmp : 0 < m := by omega
  clear hn0 hm0
  obtain ⟨i0, hi0, hz0, hz1, hz2⟩ := info_parts Tryz.infoInt
  obtain ⟨w1, hmk, hown0, hg0⟩ := run_make_full (P := Tryz.prog) w w.heap.size 26 3 i0 _ 1 Tryz.underlying26 hi0 hz0 hz1 .i64 .i64 (n + m) (by rw [hz2]; omega) (by unfold maxLen; omega) (Nat.le_refl _)
  have hb0 : Below w.heap.size w w1 := (Below.refl _ _).grown hg0 (Nat.le_refl _) (fun k h => by cases h)
  have hs0 : w.heap.size + 1 ≤ w1.heap.size := (hown0.lt w.heap.size (by simp [Value.ownBlock])).2
  have hZ : (madeCells (Value.int .i64 0).cells ((n + m) * 1)).toList = iv (List.replicate (n + m) 0) := by
    show (madeCells #[Value.int .i64 0] ((n + m) * 1)).toList = _
    rw [toList_madeCells_one, Nat.mul_one]; simp [iv]
  rw [hZ] at hown0
  rw [Int.natCast_add] at hmk
  have HP0 : Hid (Prd xs ys (List.replicate (n + m) 0) 0) := by
    refine ⟨by simp [hn, hm], fun d hd => by rw [List.eq_of_mem_replicate hd]; omega, fun p _ => by simp [List.getD, List.getElem?_replicate]; split <;> rfl, ?_⟩
    have : ∀ k : Nat, val (List.replicate k 0) = 0 := fun k => by
      induction k with
      | zero => rfl
      | succ k ih => rw [List.replicate_succ, val, ih]; rfl
    rw [this]; simp [val]
  clear hi0 hz0 hz1 hz2 hg0 hZ
  go_enter Tryz.func39, Tryz.ntmps39
  go_wp2_with fail
  go_loopw [28] (fun i wr => ∃ (k : Nat) (zs : List Int), k ≤ n ∧ i = .int .i64 k ∧ wr.ownsRow w.heap.size 3 1 (.slice (some ⟨w.heap.size, 0, none⟩) (n + m) (n + m)) (n + m) (iv zs) ∧ Below w.heap.size w wr ∧ Hid (Prd xs ys zs k)) (fun i _ => n - (intOf i).toNat)
  case atStart => exact ⟨0, _, Nat.zero_le _, rfl, hown0, hb0, HP0⟩
  case round =>
    clear hown0 hb0 HP0 hmk hs0
    obtain ⟨k, zs, hk, rfl, hown, hbl, S⟩ := hrel
    by_cases hkn : k < n
    · obtain ⟨ad, hA, hab, hc1⟩ := (hx.below (hbl.mono hB)).int (k := k) (by omega)
      obtain ⟨hx0, hx1⟩ := hlx xs[k] (List.getElem_mem _)
      have gx := getD_in (l := xs) (k := k) (by omega)
      generalize xs[k] = x at *
      have S1 := hide (S.out.part (x := x))
      have GX := hide gx
      clear S gx
      have HX := hide hx
      clear hx
      obtain ⟨W, hW⟩ : ∃ W, W = wr := ⟨_, rfl⟩
      subst hW
      subst hA
      go_wp2_with fail
      go_loopw [8, 35] (fun cq i wr => ∃ (j : Nat) (q : Int) (zs : List Int), j ≤ m ∧ i = .int .i64 j ∧ cq = .int .i64 q ∧ 0 ≤ q ∧ q ≤ 999999999 ∧ wr.ownsRow w.heap.size 3 1 (.slice (some ⟨w.heap.size, 0, none⟩) (n + m) (n + m)) (n + m) (iv zs) ∧ Below w.heap.size w wr ∧ Hid (Prt xs ys zs k j x q)) (fun _ i _ => m - (intOf i).toNat)
      case atStart => exact ⟨0, 0, zs, Nat.zero_le _, rfl, rfl, by omega, by omega, hown, hbl, S1⟩
      case round =>
        clear hown hbl S1 hc1
        obtain ⟨j, q, zs, hj, rfl, rfl, hq0, hq1, hown, hbl, S⟩ := hrel
        by_cases hjm : j < m
        · obtain ⟨ad', hA', hab', hc2⟩ := (hy.below (hbl.mono hB)).int (k := j) (by omega)
          obtain ⟨hy0, hy1⟩ := hly ys[j] (List.getElem_mem _)
          have gy := getD_in (l := ys) (k := j) (by omega)
          generalize ys[j] = y at *
          have hce := own_int (j := k + j) hown (by omega)
          have hfr := hown.frozenAt (k + j)
          have hzl : zs.length = n + m := by have := S.out.1; omega
          have ho : 0 ≤ zs.getD (k + j) 0 ∧ zs.getD (k + j) 0 ≤ 999999999 := by
            have hm := S.out.2.1 (zs.getD (k + j) 0) (by rw [getD_in (by omega)]; exact List.getElem_mem _)
            exact hm
          obtain ⟨ho0, ho1⟩ := ho
          have hxy0 : 0 ≤ x * y := Int.mul_nonneg hx0 hy0
          have hxy1 : x * y ≤ 999999998000000001 := by
            have := Int.mul_le_mul hx1 hy1 hy0 (by omega : (0 : Int) ≤ 999999999)
            omega
          have HS := hide (S.out.next (by omega) (by omega) gy rfl (N := zs.getD (k + j) 0 + x * y + q) rfl (by omega))
          obtain ⟨h1, h2⟩ := hown.stored (k + j) (.int .i64 ((zs.getD (k + j) 0 + x * y + q) % 1000000000))
          rw [iv_set] at h1
          have H1 := hide h1
          generalize zs.getD (k + j) 0 = o at *
          clear h1 h2 S gy hy hzl HX
          subst hA'
          go_wp2_with fail
          go_roundw
          case rel => exact ⟨j + 1, (o + x * y + q) / 1000000000, _, by omega, by go_num, rfl, by omega, by omega, H1.out, hbl.setCell (p := ⟨w.heap.size, k + j, none⟩) (Nat.le_refl _) _, HS⟩
          case measure => simp [intOf]; omega
        · obtain rfl : j = m := by omega
          have S2 : Prt xs ys zs k ys.length x q := by rw [hm]; exact S.out
          have HS := hide (S2.done (by omega) GX.out ⟨hq0, hq1⟩)
          rw [hm] at HS
          obtain ⟨u1, hu1⟩ := own_cell hown (show k + j < n + j by omega)
          have hfr := hown.frozenAt (k + j)
          obtain ⟨h1, h2⟩ := hown.stored (k + j) (.int .i64 q)
          rw [iv_set] at h1
          have H1 := hide h1
          clear h1 h2 S S2 hy HX
          go_wp2_with fail
          go_roundw
          case rel => exact ⟨k + 1, _, by omega, by go_num, H1.out, hbl.setCell (p := ⟨w.heap.size, k + j, none⟩) (Nat.le_refl _) _, HS⟩
          case measure => simp [intOf]; omega
    · obtain rfl : k = n := by omega
      have hzl : zs.length = k + m := by have := S.out.1; omega
      have HV : Hid (trim zs = limbs (val xs * val ys).toNat) := by
        obtain ⟨g1, g2, g3, g4⟩ := S.out
        rw [List.take_of_length_le (by omega)] at g4
        have h0 := val_nonneg g2
        exact trim_eq g2 (by omega)
      have HT := hide (spec_TrimOwn wr _ _ _ _ zs hown)
      rw [HV.out] at HT
      have HB := hide hbl
      clear hbl hown S hx hy hlx hly hzl
      go_wp2_with fail
      refine HT.out.mono ?_
      rintro e w' ⟨v2, rfl, hown2, rfl⟩
      go_wp2_with fail
      go_ret
      exact ⟨_, rfl, hown2, HB.out⟩
end Go.Proofs.YtdcceppednngjaaGreat

/-
  The reference's natural numbers: contracts (6): NatToInt, l02Small.
-/

namespace Go.Proofs.YtdcceppednngjaaGreat
open Go.RowKit
set_option linter.unusedVariables false

set_option maxHeartbeats 800000 in
theorem spec_NatToInt (w : World) (B : Nat) (hB : B ≤ w.heap.size) (A0 : Option Addr) (n0 c0 : Nat) (xs0 : List Int) (R0 : RdI w B A0 n0 xs0) :
    Calls Tryz.prog 73 #[.slice A0 n0 c0] w fun e w' => e = .returned (.tuple #[.int .i64 (natInt xs0), .bool (natIntOk xs0)]) ∧ Below w.heap.size w w' := by
  have H0 := hide (spec_NatOk w B hB A0 n0 c0 xs0 R0)
  by_cases h0 : natB xs0 = true
  · obtain ⟨k0, l0⟩ := (natB_iff xs0).1 h0
    have hmx : Rd (w.alloc (.cells #[.int .i64 854775807, .int .i64 223372036, .int .i64 9] 3)) (w.heap.size + 1) (some ⟨w.heap.size, 0, none⟩) (iv maxL) := by
      refine .inr ⟨_, rfl, Nat.lt_succ_self _, fun j u hu => ?_⟩
      have e : (⟨w.heap.size, 0, none⟩ : Addr).add j = ⟨w.heap.size, j, none⟩ := by unfold Addr.add; split <;> simp_all
      rw [e, World.cell?_alloc_mark]
      simpa [iv, maxL] using hu
    have hxa : Rd (w.alloc (.cells #[.int .i64 854775807, .int .i64 223372036, .int .i64 9] 3)) (w.heap.size + 1) A0 (iv xs0) := (R0.2.1.alloc hB _).wider (by omega)
    have HK := hide (spec_Cmp _ _ A0 (some ⟨w.heap.size, 0, none⟩) n0 3 c0 3 xs0 maxL R0.1 rfl hxa hmx (by have := R0.2.2.1; omega) (by omega) k0 maxL_canon)
    rw [maxL_val] at HK
    have hbA := (Below.refl w.heap.size w).alloc (Nat.le_refl _) (.cells #[.int .i64 854775807, .int .i64 223372036, .int .i64 9] 3)
    have hn := R0.1
    have hl := R0.2.2.1
    have hx := R0.2.1
    clear hmx R0
    by_cases hle : val xs0 ≤ 9223372036854775807
    · have hok : natIntOk xs0 = true := by rw [natIntOk, h0]; simpa using hle
      have HE : Hid (natInt xs0 = val xs0 ∧ natIntOk xs0 = true) := ⟨by rw [natInt, hok]; simp, hok⟩
      have hcv : ¬ 0 < cmpV (val xs0) 9223372036854775807 := by
        unfold cmpV
        split
        · omega
        · split <;> omega
      have hcv' : decide (0 < cmpV (val xs0) 9223372036854775807) = false := decide_eq_false hcv
      have hcv0 : cmpV (val xs0) 9223372036854775807 ≤ 0 := by omega
      generalize cmpV (val xs0) 9223372036854775807 = q at *
      have HL := hide hle
      have hlx := k0.1
      clear hcv hle hok k0
      have HX := hide hxa
      clear hxa hx
      go_enter Tryz.func73, Tryz.ntmps73
      go_wp2_with fail
      refine H0.out.mono ?_
      rintro e w' ⟨rfl, rfl⟩
      go_wp2_with fail
      refine HK.out.mono ?_
      rintro e w' ⟨rfl, d, rfl⟩
      have hxd : Rd ((w.alloc (.cells #[.int .i64 854775807, .int .i64 223372036, .int .i64 9] 3)).drewN d) (w.heap.size + 1) A0 (iv xs0) := HX.out
      have hbd := below_drewN hbA d
      clear H0 HK HX hbA
      go_wp2_with fail
      generalize (w.alloc (.cells #[.int .i64 854775807, .int .i64 223372036, .int .i64 9] 3)).drewN d = W at *
      go_loop [4, 5] (fun s i => ∃ k : Nat, k ≤ n0 ∧ i = .int .i64 ((k : Int) - 1) ∧ s = .int .i64 (val (xs0.drop k))) (fun _ i => (intOf i + 1).toNat)
      case atStart => exact ⟨n0, Nat.le_refl _, rfl, by rw [List.drop_of_length_le (by omega)]; rfl⟩
      case round =>
        obtain ⟨k, hk, rfl, rfl⟩ := hrel
        by_cases hk0 : k = 0
        · subst hk0
          rw [List.drop_zero]
          clear hxd hlx
          go_wp2_with fail
          go_ret2
          exact ⟨ret_pair HE.out.1.symm HE.out.2.symm, hbd⟩
        · obtain ⟨j, rfl⟩ : ∃ j, k = j + 1 := ⟨k - 1, by omega⟩
          rw [show (((j + 1 : Nat) : Int) - 1) = (j : Int) by omega]
          obtain ⟨ad, hA, hab, hc⟩ := hxd.int (k := j) (by omega)
          obtain ⟨hy0, hy1⟩ := hlx xs0[j] (List.getElem_mem _)
          have hv := val_drop (l := xs0) (j := j) (by omega)
          have hvl := val_drop_le hlx j
          have hv0 := val_nonneg (hlx.drop (j + 1))
          have hle := HL.out
          have HV := hide hv
          generalize val (xs0.drop (j + 1)) = D at *
          have hb1 : D * 1000000000 + xs0[j] ≤ 9223372036854775807 := by omega
          generalize xs0[j] = y at *
          clear hv hvl hle hxd hlx hk0
          subst hA
          go_wp2_with fail
          go_round
          case rel => exact ⟨j, by omega, rfl, by rw [HV.out]; congr 1; omega⟩
          case measure => simp [intOf]
    · have hok : natIntOk xs0 = false := by rw [natIntOk, h0]; simpa using hle
      have HE : Hid (natInt xs0 = 0 ∧ natIntOk xs0 = false) := ⟨by rw [natInt, hok]; simp, hok⟩
      have hcv : cmpV (val xs0) 9223372036854775807 = 1 := cmpV_gt (by omega)
      rw [hcv] at HK
      clear hle hok k0 hcv hxa hx
      go_enter Tryz.func73, Tryz.ntmps73
      go_wp2_with fail
      refine H0.out.mono ?_
      rintro e w' ⟨rfl, rfl⟩
      go_wp2_with fail
      refine HK.out.mono ?_
      rintro e w' ⟨rfl, d, rfl⟩
      have hbd := below_drewN hbA d
      clear H0 HK hbA
      go_wp2_with fail
      go_ret2
      exact ⟨ret_pair HE.out.1.symm HE.out.2.symm, hbd⟩
  · have h0' : natB xs0 = false := by simpa using h0
    have hok : natIntOk xs0 = false := by rw [natIntOk, h0']; rfl
    have HE : Hid (natInt xs0 = 0 ∧ natIntOk xs0 = false) := ⟨by rw [natInt, hok]; simp, hok⟩
    clear R0 h0 hok
    go_enter Tryz.func73, Tryz.ntmps73
    go_wp2_with fail
    refine H0.out.mono ?_
    rintro e w' ⟨rfl, rfl⟩
    go_wp2_with fail
    go_ret2
    exact ⟨ret_pair HE.out.1.symm HE.out.2.symm, Below.refl _ _⟩
end Go.Proofs.YtdcceppednngjaaGreat
