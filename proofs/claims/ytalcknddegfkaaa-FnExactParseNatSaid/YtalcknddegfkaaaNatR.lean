/-
  The reference's natural numbers: contracts (1): NatOk, l02Trim, l02Cap, NatOf, l02Cmp, NatCmp.
-/
import Derived.Test.YtalcknddegfkaaaOwn
import Derived.Test.YtalcknddegfkaaaNatP
namespace Go.Proofs.Ytalcknddegfkaaa
open Go.RowKit
set_option linter.unusedVariables false

theorem l01In_all (n lo hi : Int) (w : World) (b : Bool) (h : Hid (b = decide (lo ≤ n ∧ n ≤ hi))) :
    Calls Try.prog 37 #[.int .i64 n, .int .i64 lo, .int .i64 hi] w fun e w' => e = .returned (.bool b) ∧ w = w' := by
  by_cases h1 : lo ≤ n
  · go_enter Try.func37, Try.ntmps37
    go_wp2
    go_ret
    exact ⟨ret_bool (a := decide (n ≤ hi)) (by rw [h.out]; simp [h1]), rfl⟩
  · go_enter Try.func37, Try.ntmps37
    go_wp2
    go_ret
    exact ⟨ret_bool (a := false) (by rw [h.out]; simp; omega), rfl⟩

theorem natB_bad {l : List Int} {k : Nat} (hk : k < l.length) (h : ¬ (0 ≤ l[k] ∧ l[k] ≤ 999999999)) : natB l = false := by
  rw [Bool.eq_false_iff]
  intro hb
  exact h (((natB_iff l).1 hb).1.1 _ (List.getElem_mem hk))
theorem natB_long {l : List Int} (h : 60 < l.length) : natB l = false := by
  rw [Bool.eq_false_iff]
  intro hb
  have := ((natB_iff l).1 hb).2
  omega
theorem natB_last {l : List Int} (h0 : 0 < l.length) (h60 : l.length ≤ 60) (hl : Limbs l) : natB l = (l[l.length - 1] != 0) := by
  have hg : l.getLast? = some l[l.length - 1] := by rw [List.getLast?_eq_getElem?, List.getElem?_eq_getElem (by omega)]
  by_cases hz : l[l.length - 1] = 0
  · have : natB l = false := by
      rw [Bool.eq_false_iff]
      intro hb
      exact ((natB_iff l).1 hb).1.2 _ hg hz
    rw [this]; simp [hz]
  · have : natB l = true := (natB_iff l).2 ⟨⟨hl, fun d hd => by rw [hg] at hd; injection hd with hd; omega⟩, h60⟩
    rw [this]; simp [hz]

set_option maxHeartbeats 800000 in
theorem spec_NatOk (w : World) (B : Nat) (hB : B ≤ w.heap.size) (A : Option Addr) (n c : Nat) (xs : List Int) (R : RdI w B A n xs) :
    Calls Try.prog 13 #[.slice A n c] w fun e w' => e = .returned (.bool (natB xs)) ∧ w = w' := by
  obtain ⟨hn, hx, hl, hwf⟩ := R
  go_enter Try.func13, Try.ntmps13
  go_wp2_with fail
  go_loop [7] (fun i => ∃ k : Nat, k ≤ n ∧ i = .int .i64 k ∧ Hid (∀ j (h : j < xs.length), j < k → 0 ≤ xs[j] ∧ xs[j] ≤ 999999999)) (fun i => n - (intOf i).toNat)
  case atStart => exact ⟨0, Nat.zero_le _, rfl, fun j _ h => absurd h (Nat.not_lt_zero _)⟩
  case round =>
    obtain ⟨k, hk, rfl, H⟩ := hrel
    by_cases hlt : k < n
    · obtain ⟨ad, hA, hb1, hc1⟩ := hx.int (k := k) (by omega)
      by_cases hd : 0 ≤ xs[k] ∧ xs[k] ≤ 999999999
      · have HN : Hid (∀ j (h : j < xs.length), j < k + 1 → 0 ≤ xs[j] ∧ xs[j] ≤ 999999999) := fun j h hj => by
          by_cases e : j = k
          · subst e; exact hd
          · exact H.out j h (by omega)
        have HI := hide (l01In_all xs[k] 0 999999999 w true (by show true = _; simp [hd]))
        clear hd H hx hwf
        subst hA
        go_wp2_with fail
        refine HI.out.mono ?_
        rintro e w' ⟨rfl, rfl⟩
        go_wp2_with fail
        go_round
        case rel => exact ⟨k + 1, by omega, by go_num, HN⟩
        case measure => simp [intOf]; omega
      · have HB := hide (natB_bad (k := k) (by omega) hd)
        have HI := hide (l01In_all xs[k] 0 999999999 w false (by show false = _; simpa using hd))
        clear hd H hx hwf
        subst hA
        go_wp2_with fail
        refine HI.out.mono ?_
        rintro e w' ⟨rfl, rfl⟩
        go_wp2_with fail
        go_ret
        exact ⟨ret_bool HB.out.symm, rfl⟩
    · have hL : Limbs xs := fun d hd => by
        obtain ⟨j, hj, rfl⟩ := List.getElem_of_mem hd
        exact H.out j hj (by omega)
      clear H
      by_cases h60 : n ≤ 60
      · by_cases h0 : n = 0
        · have HB : Hid (natB xs = true) := by
            have : xs = [] := List.eq_nil_of_length_eq_zero (by omega)
            subst this; rfl
          subst h0
          clear hx hwf hL
          go_wp2_with fail
          go_ret
          exact ⟨ret_bool HB.out.symm, rfl⟩
        · have HB := hide (natB_last (l := xs) (by omega) (by omega) hL)
          obtain ⟨ad, hA, hb1, hc1⟩ := hx.int (k := n - 1) (by omega)
          have hz : ((n : Int) == 0) = false := by simp; omega
          have e1 : xs[xs.length - 1]'(by omega) = xs[n - 1]'(by omega) := by congr 1; omega
          have HB' := hide (HB.out.trans (by rw [e1]))
          generalize xs[n - 1]'(by omega) = y at *
          have h0' : 0 < n := by omega
          clear HB e1 hx hwf hL h0
          subst hA
          go_wp2_with fail
          go_ret
          exact ⟨ret_bool HB'.out.symm, rfl⟩
      · have HB := hide (natB_long (l := xs) (by omega))
        have h60' : 60 < n := by omega
        clear hx hwf hL h60
        go_wp2_with fail
        go_ret
        exact ⟨ret_bool HB.out.symm, rfl⟩

/-! ### l02Trim -/
theorem trim_take_step {l : List Int} {k : Nat} (hk : k < l.length) (h : l[k] = 0) : trim (l.take (k + 1)) = trim (l.take k) := by
  rw [List.take_succ_eq_append_getElem hk, h, trim_snoc_zero]
theorem trim_take_end {l : List Int} {k : Nat} (hk : k < l.length) (h : l[k] ≠ 0) : trim (l.take (k + 1)) = l.take (k + 1) := by
  rw [List.take_succ_eq_append_getElem hk, trim_snoc h]
set_option maxHeartbeats 800000 in
theorem spec_Trim (w : World) (B : Nat) (A : Option Addr) (n c : Nat) (xs : List Int) (hn : xs.length = n) (hx : Rd w B A (iv xs)) (hc : n ≤ c) (hcm : c ≤ maxLen) :
    Calls Try.prog 55 #[.slice A n c] w fun e w' => ∃ m, e = .returned (.slice A m c) ∧ m ≤ n ∧ trim xs = xs.take m ∧ w = w' := by
  unfold maxLen at hcm
  go_enter Try.func55, Try.ntmps55
  go_wp2_with fail
  go_loop [3] (fun i => ∃ k : Nat, k ≤ n ∧ i = .int .i64 k ∧ Hid (trim xs = trim (xs.take k))) (fun i => (intOf i).toNat)
  case atStart => exact ⟨n, Nat.le_refl _, rfl, by show _ = _; rw [List.take_of_length_le (by omega)]⟩
  case round =>
    obtain ⟨k, hk, rfl, H⟩ := hrel
    by_cases h0 : k = 0
    · subst h0
      have HT : Hid (trim xs = xs.take 0) := H.out
      clear H hx
      go_wp2_with fail
      go_ret
      exact ⟨0, rfl, Nat.zero_le _, HT.out, rfl⟩
    · obtain ⟨j, rfl⟩ : ∃ j, k = j + 1 := ⟨k - 1, by omega⟩
      obtain ⟨ad, hA, hb1, hc1⟩ := hx.int (k := j) (by omega)
      by_cases hz : xs[j] = 0
      · have HN : Hid (trim xs = trim (xs.take j)) := H.out.trans (trim_take_step (by omega) hz)
        have hzb : (xs[j] == 0) = true := by simp [hz]
        clear H hx hz h0
        subst hA
        go_wp2_with fail
        go_round
        case rel => exact ⟨j, by omega, by go_num, HN⟩
        case measure => simp [intOf]
      · have HN : Hid (trim xs = xs.take (j + 1)) := H.out.trans (trim_take_end (by omega) hz)
        have hzb : (xs[j] == 0) = false := by simp [hz]
        clear H hx hz h0
        subst hA
        go_wp2_with fail
        go_ret
        exact ⟨j + 1, rfl, by omega, HN.out, rfl⟩

/-! ### l02Cap -/
def capT (xs : List Int) : List Int := if (trim xs).length ≤ 60 then trim xs else []
theorem capT_capL {xs : List Int} (h : Limbs xs) {n : Nat} (hv : val xs = n) : capT xs = capL n := by
  rw [capT, capL, trim_eq h hv]
set_option maxHeartbeats 400000 in
theorem spec_Cap (w : World) (lo n c : Nat) (A : Option Addr) (xs : List Int) (ho : w.ownsRow lo 3 1 (.slice A n c) n (iv xs)) :
    Calls Try.prog 41 #[.slice A n c] w fun e w' => ∃ v, e = .returned v ∧ w.ownsRow lo 3 1 v (capT xs).length (iv (capT xs)) ∧ w = w' := by
  have hn : xs.length = n := by have := ho.1; rw [iv_len] at this; omega
  have hcc : n ≤ c ∧ c ≤ maxLen := by
    rcases ho.2 with ⟨h', h0⟩ | ⟨g', c', cur, hv, _, _, hnc, hcm, _⟩
    · injection h' with h1 h2 h3; subst h3; unfold maxLen; omega
    · injection hv with h1 h2 h3; subst h3; exact ⟨hnc, hcm⟩
  have hcm := hcc.2
  unfold maxLen at hcm
  go_enter Try.func41, Try.ntmps41
  go_wp2_with fail
  refine (spec_Trim w w.heap.size A n c xs hn (own_rd ho) hcc.1 hcc.2).mono ?_
  rintro e w' ⟨m, rfl, hm, hT, rfl⟩
  have hml : (trim xs).length = m := by rw [hT, List.length_take]; omega
  by_cases h60 : m ≤ 60
  · have HC : Hid (capT xs = trim xs) := by show _ = _; rw [capT, if_pos (by omega)]
    have HM := hide hml
    have HT := hide hT
    clear hml hT hcc
    go_wp2_with fail
    go_ret
    refine ⟨_, rfl, ?_, rfl⟩
    rw [HC.out, HM.out, HT.out]
    rcases own_form ho with ⟨h', h0, hx0⟩ | ⟨g, c', h', _, _⟩
    · injection h' with h1 h2 h3
      subst h1 h3
      obtain rfl : m = 0 := by omega
      exact World.ownsRow_nil _ _ _ _
    · injection h' with h1 h2 h3
      subst h1 h3
      have := own_cut ho hm
      rwa [show iv (xs.take m) = (iv xs).take m by simp [iv, List.map_take]]
  · have HC : Hid (capT xs = []) := by show _ = _; rw [capT, if_neg (by omega)]
    have h60' : 60 < m := by omega
    clear hml hT hcc h60
    go_wp2_with fail
    go_ret
    refine ⟨_, rfl, ?_, rfl⟩
    rw [HC.out]
    exact World.ownsRow_nil _ _ _ _

/-! ### NatOf -/
set_option maxHeartbeats 400000 in
theorem spec_NatOf (w : World) (B : Nat) (hB : B ≤ w.heap.size) (n : Int) (hwf : (Lit.int .i64 n).wf = true) :
    Calls Try.prog 17 #[.int .i64 n] w fun e w' => ∃ v, e = .returned v ∧ w'.ownsRow w.heap.size 3 1 v (limbs n.toNat).length (iv (limbs n.toNat)) ∧ Below w.heap.size w w' := by
  obtain ⟨h1, h2⟩ := bounds_i64 hwf
  have hown0 := World.ownsRow_made (base := w.heap.size) (e := 3) (size := 1) w #[] 0 (Nat.le_refl _) (by unfold maxLen; omega) rfl
  have hb0 := (Below.refl w.heap.size w).alloc (Nat.le_refl _) (.cells #[] 3)
  by_cases h0 : n ≤ 0
  · have HL : Hid (limbs n.toNat = []) := by show _ = _; rw [show n.toNat = 0 by omega]; exact limbs_zero
    go_enter Try.func17, Try.ntmps17
    go_wp2_with fail
    refine wp_loop_rounds 1 ?_
    rw [rounds_succ]
    go_wp2_with fail
    go_ret
    exact ⟨_, rfl, by rw [HL.out]; exact hown0, hb0⟩
  · obtain ⟨N, rfl⟩ : ∃ N : Nat, n = (N : Int) := ⟨n.toNat, by omega⟩
    have HN : Hid (((N : Int)).toNat = N) := by show _ = _; omega
    go_enter Try.func17, Try.ntmps17
    go_wp2_with fail
    go_loopw [0, 3] (fun i v wr => ∃ (k : Nat) (acc : List Int), k ≤ N ∧ i = .int .i64 k ∧ wr.ownsRow w.heap.size 3 1 v acc.length (iv acc) ∧ w.heap.size ≤ wr.heap.size ∧ Below w.heap.size w wr ∧ Hid (limbs N = acc ++ limbs k) ∧ Hid (acc.length + (limbs k).length ≤ 3)) (fun i _ _ => (intOf i).toNat)
    case atStart =>
      refine ⟨N, [], Nat.le_refl _, rfl, hown0, by simp, hb0, rfl, ?_⟩
      show 0 + _ ≤ 3
      have := (limbs_len (n := N) (k := 3)).2 (by omega)
      omega
    case round =>
      clear hown0 hb0
      obtain ⟨k, acc, hk, rfl, hown, hsz, hbl, H, H3⟩ := hrel
      by_cases hlt : 0 < k
      · have HS : Hid (limbs N = (acc ++ [((k % 1000000000 : Nat) : Int)]) ++ limbs (k / 1000000000)) := by
          show _ = _
          rw [H.out, limbs_pos hlt, List.append_assoc]; rfl
        have H3' : Hid ((acc ++ [((k % 1000000000 : Nat) : Int)]).length + (limbs (k / 1000000000)).length ≤ 3) := by
          have := H3.out
          rw [limbs_pos hlt, List.length_cons] at this
          show _ ≤ 3
          rw [List.length_append, List.length_singleton]; omega
        have hacc : acc.length ≤ 3 := by have := H3.out; omega
        clear H H3
        go_wp2_with (at_builtin; refine wpList_append1 Try.sliceInt rfl _ _ rfl wr w.heap.size _ _ _ hown rfl #[.int .i64 ((k : Int) % 1000000000)] 1 rfl rfl (by simp [Value.oneCell']) (by omega) (by omega) hsz ?_; intro v' w1 hown1 hb1)
        have hs1 := hb1.size
        go_roundw
        case rel =>
          refine ⟨k / 1000000000, acc ++ [((k % 1000000000 : Nat) : Int)], by omega, by go_num, ?_, by omega, hbl.trans hb1, HS, H3'⟩
          simpa [iv] using hown1
        case measure => simp [intOf]; omega
      · obtain rfl : k = 0 := by omega
        have HE : Hid (limbs N = acc) := by show _ = _; rw [H.out, limbs_zero, List.append_nil]
        clear H H3
        go_wp2_with fail
        go_ret
        exact ⟨_, rfl, by rw [HN.out, HE.out]; exact hown, hbl⟩
end Go.Proofs.Ytalcknddegfkaaa
