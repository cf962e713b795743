/-
  The program's natural numbers: contracts (3): NatOk, NatOf, cmp.Compare, compareLimbs, NatCmp.
-/
import Derived.Test.YtcainjgcfbgddaaNatI2
namespace Go.Proofs.Ytcainjgcfbgddaa
open Go.RowKit
set_option linter.unusedVariables false

set_option maxHeartbeats 800000 in
theorem impl_NatOk (w : World) (B : Nat) (hB : B ≤ w.heap.size) (A : Option Addr) (n c : Nat) (xs : List Int) (R : RdI w B A n xs) :
    Calls Try.prog 65 #[.slice A n c] w fun e w' => e = .returned (.bool (natB xs)) ∧ w = w' := by
  obtain ⟨hn, hx, hl, hwf⟩ := R
  by_cases h60 : n ≤ 60
  · go_enter Try.func65, Try.ntmps65
    go_wp2_with fail
    go_loop [10] (fun i => ∃ k : Nat, k ≤ n ∧ i = .int .i64 k ∧ Hid (∀ j (h : j < xs.length), j < k → 0 ≤ xs[j] ∧ xs[j] ≤ 999999999)) (fun i => n - (intOf i).toNat)
    case atStart => exact ⟨0, Nat.zero_le _, rfl, fun j _ h => absurd h (Nat.not_lt_zero _)⟩
    case round =>
      obtain ⟨k, hk, rfl, H⟩ := hrel
      by_cases hlt : k < n
      · obtain ⟨ad, hA, hb1, hc1⟩ := hx.int (k := k) (by omega)
        by_cases hd : 0 ≤ xs[k] ∧ xs[k] ≤ 999999999
        · have HN : Hid (∀ j (h : j < xs.length), j < k + 1 → 0 ≤ xs[j] ∧ xs[j] ≤ 999999999) := fun j h hj => by
            by_cases e : j = k
            · subst e; exact hd
            · exact H.out j h (by omega)
          obtain ⟨hd1, hd2⟩ := hd
          generalize xs[k] = y at *
          clear H hx hwf
          subst hA
          go_wp2_with fail
          go_round
          case rel => exact ⟨k + 1, by omega, by go_num, HN⟩
          case measure => simp [intOf]; omega
        · have HB := hide (natB_bad (k := k) (by omega) hd)
          by_cases hd1 : xs[k] < 0
          · generalize xs[k] = y at *
            clear hd H hx hwf
            subst hA
            go_wp2_with fail
            go_ret
            exact ⟨ret_bool HB.out.symm, rfl⟩
          · have hd2 : 1000000000 ≤ xs[k] := by omega
            generalize xs[k] = y at *
            clear hd H hx hwf
            subst hA
            go_wp2_with fail
            go_ret
            exact ⟨ret_bool HB.out.symm, rfl⟩
      · have hL : Limbs xs := fun d hd => by
          obtain ⟨j, hj, rfl⟩ := List.getElem_of_mem hd
          exact H.out j hj (by omega)
        clear H
        by_cases h0 : n = 0
        · have HB : Hid (natB xs = true) := by
            have : xs = [] := List.eq_nil_of_length_eq_zero (by omega)
            subst this; rfl
          subst h0
          clear hx hwf hL
          go_wp2_with fail
          go_ret
          exact ⟨ret_bool HB.out.symm, rfl⟩
        · have HB := hide (natB_last (l := xs) (by omega) (by omega) hL)
          obtain ⟨ad, hA, hb1, hc1⟩ := hx.int (k := n - 1) (by omega)
          have hz : ((n : Int) == 0) = false := by simp; omega
          have e1 : xs[xs.length - 1]'(by omega) = xs[n - 1]'(by omega) := by congr 1; omega
          have HB' := hide (HB.out.trans (by rw [e1]))
          generalize xs[n - 1]'(by omega) = y at *
          have h0' : 0 < n := by omega
          clear HB e1 hx hwf hL h0
          subst hA
          go_wp2_with fail
          go_ret
          exact ⟨ret_bool HB'.out.symm, rfl⟩
  · have HB := hide (natB_long (l := xs) (by omega))
    have h60' : 60 < n := by omega
    clear hx hwf h60
    go_enter Try.func65, Try.ntmps65
    go_wp2_with fail
    go_ret
    exact ⟨ret_bool HB.out.symm, rfl⟩

/-! ### NatOf -/
theorem trim_limbs (n : Nat) : trim (limbs n) = limbs n := trim_eq (limbs_ok n) (val_limbs n)
set_option maxHeartbeats 400000 in
theorem impl_NatOf (w : World) (B : Nat) (hB : B ≤ w.heap.size) (n : Int) (hwf : (Lit.int .i64 n).wf = true) :
    Calls Try.prog 68 #[.int .i64 n] w fun e w' => ∃ v, e = .returned v ∧ Own w' w.heap.size w'.heap.size 3 v (limbs n.toNat).length (iv (limbs n.toNat)) ∧ Below w.heap.size w w' := by
  obtain ⟨h1, h2⟩ := bounds_i64 hwf
  by_cases h0 : n ≤ 0
  · have HL : Hid (limbs n.toNat = []) := by show _ = _; rw [show n.toNat = 0 by omega]; exact limbs_zero
    have HC := hide (impl_cutZeros w w.heap.size w.heap.size none 0 0 [] (Own.nil _ _ _ _) (Nat.le_refl _) (by unfold maxLen; omega))
    go_enter Try.func68, Try.ntmps68
    go_wp2_with fail
    refine wp_loop_rounds 1 ?_
    rw [rounds_succ]
    go_wp2_with fail
    refine HC.out.mono ?_
    rintro e w' ⟨v, rfl, o, _, rfl⟩
    have HO := hide o
    clear o
    go_wp2_with fail
    go_ret
    exact ⟨_, rfl, by rw [HL.out]; exact HO.out, Below.refl _ _⟩
  · obtain ⟨N, rfl⟩ : ∃ N : Nat, n = (N : Int) := ⟨n.toNat, by omega⟩
    have HN : Hid (((N : Int)).toNat = N) := by show _ = _; omega
    go_enter Try.func68, Try.ntmps68
    go_wp2_with fail
    go_loopw [3, 4] (fun v i wr => ∃ (k : Nat) (acc : List Int), k ≤ N ∧ i = .int .i64 k ∧ wr.ownsRow w.heap.size 3 1 v acc.length (iv acc) ∧ w.heap.size ≤ wr.heap.size ∧ Below w.heap.size w wr ∧ Hid (limbs N = acc ++ limbs k) ∧ Hid (acc.length + (limbs k).length ≤ 3)) (fun _ i _ => (intOf i).toNat)
    case atStart =>
      refine ⟨N, [], Nat.le_refl _, rfl, World.ownsRow_nil _ _ _ _, Nat.le_refl _, Below.refl _ _, rfl, ?_⟩
      show 0 + _ ≤ 3
      have := (limbs_len (n := N) (k := 3)).2 (by omega)
      omega
    case round =>
      obtain ⟨k, acc, hk, rfl, hown, hsz, hbl, H, H3⟩ := hrel
      by_cases hlt : 0 < k
      · have HS : Hid (limbs N = (acc ++ [((k % 1000000000 : Nat) : Int)]) ++ limbs (k / 1000000000)) := by
          show _ = _
          rw [H.out, limbs_pos hlt, List.append_assoc]; rfl
        have H3' : Hid ((acc ++ [((k % 1000000000 : Nat) : Int)]).length + (limbs (k / 1000000000)).length ≤ 3) := by
          have := H3.out
          rw [limbs_pos hlt, List.length_cons] at this
          show _ ≤ 3
          rw [List.length_append, List.length_singleton]; omega
        have hacc : acc.length ≤ 3 := by have := H3.out; omega
        clear H H3
        go_wp2_with (at_builtin; refine wpList_append1 Try.sliceInt rfl _ _ rfl wr w.heap.size _ _ _ hown rfl #[.int .i64 ((k : Int) % 1000000000)] 1 rfl rfl (by simp [Value.oneCell']) (by omega) (by omega) hsz ?_; intro v' w1 hown1 hb1)
        have hs1 := hb1.size
        go_roundw
        case rel =>
          refine ⟨k / 1000000000, acc ++ [((k % 1000000000 : Nat) : Int)], by omega, by go_num, ?_, by omega, hbl.trans hb1, HS, H3'⟩
          simpa [iv] using hown1
        case measure => simp [intOf]; omega
      · obtain rfl : k = 0 := by omega
        have HE : Hid (limbs N = acc) := by show _ = _; rw [H.out, limbs_zero, List.append_nil]
        have HT : Hid (trim acc = limbs N) := by show _ = _; rw [← HE.out]; exact trim_limbs N
        obtain ⟨A', c', rfl, hcc, hcm⟩ : ∃ A' c', u3 = .slice A' acc.length c' ∧ acc.length ≤ c' ∧ c' ≤ maxLen := by
          rcases hown.2 with ⟨h', h0'⟩ | ⟨g', c', cur, hv, _, _, hnc, hcm, _⟩
          · exact ⟨none, 0, by rw [h', h0'], by omega, by unfold maxLen; omega⟩
          · exact ⟨_, c', hv, hnc, hcm⟩
        have HC := hide (impl_cutZeros wr w.heap.size wr.heap.size A' acc.length c' acc (Own.of_row hown (Nat.le_refl _)) hcc hcm)
        have HB := hide hbl
        clear H H3 hown hbl hcc
        go_wp2_with fail
        refine HC.out.mono ?_
        rintro e w' ⟨v, rfl, o, _, rfl⟩
        have HO := hide o
        clear o HC
        go_wp2_with fail
        go_ret
        refine ⟨_, rfl, ?_, HB.out⟩
        have := HO.out
        rw [HN.out, ← HT.out]; exact this

/-! ### cmp.Compare, compareLimbs, NatCmp -/
theorem impl_isNaN (w : World) (x : Int) : Calls Try.prog 97 #[.int .i64 x] w fun e w' => e = .returned (.bool false) ∧ w = w' := by
  have h : (x != x) = false := by simp
  go_enter Try.func97, Try.ntmps97
  go_wp2_with fail
  go_ret
  exact ⟨rfl, rfl⟩
set_option maxHeartbeats 800000 in
theorem impl_Compare (w : World) (x y : Int) : Calls Try.prog 96 #[.int .i64 x, .int .i64 y] w fun e w' => e = .returned (.int .i64 (cmpV x y)) ∧ w = w' := by
  have H1 := hide (impl_isNaN w x)
  have H2 := hide (impl_isNaN w y)
  by_cases h1 : x < y
  · have HE := hide (cmpV_lt h1)
    go_enter Try.func96, Try.ntmps96
    go_wp2_with fail
    refine H1.out.mono ?_
    rintro e w' ⟨rfl, rfl⟩
    go_wp2_with fail
    refine H2.out.mono ?_
    rintro e w' ⟨rfl, rfl⟩
    go_wp2_with fail
    go_ret
    exact ⟨ret_int HE.out.symm, rfl⟩
  · by_cases h2 : y < x
    · have HE := hide (cmpV_gt h2)
      go_enter Try.func96, Try.ntmps96
      go_wp2_with fail
      refine H1.out.mono ?_
      rintro e w' ⟨rfl, rfl⟩
      go_wp2_with fail
      refine H2.out.mono ?_
      rintro e w' ⟨rfl, rfl⟩
      go_wp2_with fail
      go_ret
      exact ⟨ret_int HE.out.symm, rfl⟩
    · have e : x = y := by omega
      have HE : Hid (cmpV x y = 0) := by show _ = _; rw [e]; exact cmpV_eq _
      clear e
      go_enter Try.func96, Try.ntmps96
      go_wp2_with fail
      refine H1.out.mono ?_
      rintro e w' ⟨rfl, rfl⟩
      go_wp2_with fail
      refine H2.out.mono ?_
      rintro e w' ⟨rfl, rfl⟩
      go_wp2_with fail
      go_ret
      exact ⟨ret_int HE.out.symm, rfl⟩
theorem cmpV_len {a b : List Int} (ha : Canon a) (hb : Canon b) (h : a.length ≠ b.length) : cmpV (val a) (val b) = cmpV (a.length : Int) (b.length : Int) := by
  by_cases hlt : a.length < b.length
  · rw [cmpV_lt (val_lt_len ha.1 hb hlt), cmpV_lt (by omega)]
  · rw [cmpV_gt (val_lt_len hb.1 ha (by omega)), cmpV_gt (by omega)]
set_option maxHeartbeats 1600000 in
theorem impl_Cmp (w : World) (B : Nat) (A A' : Option Addr) (n m c c' : Nat) (xs ys : List Int) (hn : xs.length = n) (hm : ys.length = m) (hx : Rd w B A (iv xs)) (hy : Rd w B A' (iv ys)) (hl : n ≤ 100000000) (hl' : m ≤ 100000000) (hcx : Canon xs) (hcy : Canon ys) :
    Calls Try.prog 89 #[.slice A n c, .slice A' m c'] w fun e w' => e = .returned (.int .i64 (cmpV (val xs) (val ys))) ∧ ∃ d, w' = w.drewN d := by
  by_cases hnm : n = m
  · subst hnm
    go_enter Try.func89, Try.ntmps89
    go_wp2_with fail
    go_loopw [5] (fun i wr => ∃ k d : Nat, k ≤ n ∧ i = .int .i64 ((k : Int) - 1) ∧ wr = w.drewN d ∧ Hid (xs.drop k = ys.drop k)) (fun i _ => (intOf i + 1).toNat)
    case atStart => exact ⟨n, 0, Nat.le_refl _, rfl, rfl, by show _ = _; rw [List.drop_of_length_le (by omega), List.drop_of_length_le (by omega)]⟩
    case round =>
      obtain ⟨k, d, hk, rfl, rfl, H⟩ := hrel
      by_cases h0 : k = 0
      · subst h0
        have HE : Hid (cmpV (val xs) (val ys) = 0) := by
          have : xs = ys := H.out
          show _ = _
          rw [this]; exact cmpV_eq _
        clear H hx hy
        go_wp2_with fail
        go_ret
        exact ⟨ret_int HE.out.symm, d, rfl⟩
      · obtain ⟨j, rfl⟩ : ∃ j, k = j + 1 := ⟨k - 1, by omega⟩
        rw [show (((j + 1 : Nat) : Int) - 1) = (j : Int) by omega]
        obtain ⟨ad, hA, hb1, hc1⟩ := hx.int (k := j) (by omega)
        obtain ⟨ad', hA', hb2, hc2⟩ := hy.int (k := j) (by omega)
        have hj0 : (0 : Int) ≤ (j : Int) := Int.natCast_nonneg _
        have hj1 : (j : Int) < (n : Int) := by omega
        by_cases heq : xs[j] = ys[j]
        · have HN : Hid (xs.drop j = ys.drop j) := by
            show _ = _
            rw [List.drop_eq_getElem_cons (show j < xs.length by omega), List.drop_eq_getElem_cons (show j < ys.length by omega), H.out, heq]
          have hq : (xs[j] != ys[j]) = false := by simp [heq]
          clear H hx hy h0 heq
          subst hA hA'
          go_wp2_with fail
          go_quiet (fail)
          go_wp2_with fail
          go_roundw
          case rel => exact ⟨j, _, by omega, rfl, rfl, HN⟩
          case measure => simp [intOf]
        · have HE : Hid (cmpV (val xs) (val ys) = cmpV xs[j] ys[j]) := by
            show _ = _
            by_cases hlt : xs[j] < ys[j]
            · rw [cmpV_lt hlt, cmpV_lt (cmp_at hcx.1 hcy.1 (by omega) (by omega) H.out hlt)]
            · rw [cmpV_gt (show ys[j] < xs[j] by omega), cmpV_gt (cmp_at hcy.1 hcx.1 (by omega) (by omega) H.out.symm (by omega))]
          have hq : (xs[j] != ys[j]) = true := by simp [heq]
          clear H hx hy h0 heq
          subst hA hA'
          go_wp2_with fail
          go_quiet (fail)
          go_wp2_with fail
          go_quiet ((go_at_call 96; exact (impl_Compare _ _ _).mono (by rintro e w' ⟨rfl, rfl⟩; exact ⟨rfl, _, by first | rfl | (simp only [World.drewN_drewN]; congr 1; omega)⟩)))
          go_wp2_with fail
          go_ret
          exact ⟨ret_int HE.out.symm, _, (by rw [World.drewN_drewN, World.drewN_drewN])⟩
  · have hq : ((n : Int) != (m : Int)) = true := by simp; omega
    have HE : Hid (cmpV (val xs) (val ys) = cmpV (n : Int) (m : Int)) := by
      show _ = _
      rw [cmpV_len hcx hcy (by omega), hn, hm]
    clear hx hy hnm
    go_enter Try.func89, Try.ntmps89
    go_wp2_with fail
    refine (impl_Compare w (n : Int) (m : Int)).mono ?_
    rintro e w' ⟨rfl, rfl⟩
    go_wp2_with fail
    go_ret
    exact ⟨ret_int HE.out.symm, 0, rfl⟩

end Go.Proofs.Ytcainjgcfbgddaa
