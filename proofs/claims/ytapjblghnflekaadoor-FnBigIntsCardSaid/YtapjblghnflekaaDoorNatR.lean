/-
  The reference's natural numbers: contracts (1): NatOk, l02Trim, l02Cap, NatOf, l02Cmp, NatCmp.
-/
import Derived.Test.YtapjblghnflekaaDoorNatT
namespace Go.Proofs.YtapjblghnflekaaDoor
open Go.RowKit
set_option linter.unusedVariables false

set_option maxHeartbeats 400000 in
theorem spec_Cap (w : World) (lo n c : Nat) (A : Option Addr) (xs : List Int) (ho : w.ownsRow lo 3 1 (.slice A n c) n (iv xs)) :
    Calls Tryd.prog 44 #[.slice A n c] w fun e w' => ∃ v, e = .returned v ∧ w.ownsRow lo 3 1 v (capT xs).length (iv (capT xs)) ∧ w = w' := by
  have hn : xs.length = n := by have := ho.1; rw [iv_len] at this; omega
  have hcc : n ≤ c ∧ c ≤ maxLen := by
    rcases ho.2 with ⟨h', h0⟩ | ⟨g', c', cur, hv, _, _, hnc, hcm, _⟩
    · injection h' with h1 h2 h3; subst h3; unfold maxLen; omega
    · injection hv with h1 h2 h3; subst h3; exact ⟨hnc, hcm⟩
  have hcm := hcc.2
  unfold maxLen at hcm
  go_enter Tryd.func44, Tryd.ntmps44
  go_wp2_with fail
  refine (spec_Trim w w.heap.size A n c xs hn (own_rd ho) hcc.1 hcc.2).mono ?_
  rintro e w' ⟨m, rfl, hm, hT, rfl⟩
  have hml : (trim xs).length = m := by rw [hT, List.length_take]; omega
  by_cases h60 : m ≤ 60
  · have HC : Hid (capT xs = trim xs) := by show _ = _; rw [capT, if_pos (by omega)]
    have HM := hide hml
    have HT := hide hT
    clear hml hT hcc
    go_wp2_with fail
    go_ret
    refine ⟨_, rfl, ?_, rfl⟩
    rw [HC.out, HM.out, HT.out]
    rcases own_form ho with ⟨h', h0, hx0⟩ | ⟨g, c', h', _, _⟩
    · injection h' with h1 h2 h3
      subst h1 h3
      obtain rfl : m = 0 := by omega
      exact World.ownsRow_nil _ _ _ _
    · injection h' with h1 h2 h3
      subst h1 h3
      have := own_cut ho hm
      rwa [show iv (xs.take m) = (iv xs).take m by simp [iv, List.map_take]]
  · have HC : Hid (capT xs = []) := by show _ = _; rw [capT, if_neg (by omega)]
    have h60' : 60 < m := by omega
    clear hml hT hcc h60
    go_wp2_with fail
    go_ret
    refine ⟨_, rfl, ?_, rfl⟩
    rw [HC.out]
    exact World.ownsRow_nil _ _ _ _
/-! ### NatOf -/
set_option maxHeartbeats 400000 in
theorem spec_NatOf (w : World) (B : Nat) (hB : B ≤ w.heap.size) (n : Int) (hwf : (Lit.int .i64 n).wf = true) :
    Calls Tryd.prog 43 #[.int .i64 n] w fun e w' => ∃ v, e = .returned v ∧ w'.ownsRow w.heap.size 3 1 v (limbs n.toNat).length (iv (limbs n.toNat)) ∧ Below w.heap.size w w' := by
  obtain ⟨h1, h2⟩ := bounds_i64 hwf
  have hown0 := World.ownsRow_made (base := w.heap.size) (e := 3) (size := 1) w #[] 0 (Nat.le_refl _) (by unfold maxLen; omega) rfl
  have hb0 := (Below.refl w.heap.size w).alloc (Nat.le_refl _) (.cells #[] 3)
  by_cases h0 : n ≤ 0
  · have HL : Hid (limbs n.toNat = []) := by show _ = _; rw [show n.toNat = 0 by omega]; exact limbs_zero
    go_enter Tryd.func43, Tryd.ntmps43
    go_wp2_with fail
    refine wp_loop_rounds 1 ?_
    rw [rounds_succ]
    go_wp2_with fail
    go_ret
    exact ⟨_, rfl, by rw [HL.out]; exact hown0, hb0⟩
  · obtain ⟨N, rfl⟩ : ∃ N : Nat, n = (N : Int) := ⟨n.toNat, by omega⟩
    have HN : Hid (((N : Int)).toNat = N) := by show _ = _; omega
    go_enter Tryd.func43, Tryd.ntmps43
    go_wp2_with fail
    go_loopw [0, 3] (fun i v wr => ∃ (k : Nat) (acc : List Int), k ≤ N ∧ i = .int .i64 k ∧ wr.ownsRow w.heap.size 3 1 v acc.length (iv acc) ∧ w.heap.size ≤ wr.heap.size ∧ Below w.heap.size w wr ∧ Hid (limbs N = acc ++ limbs k) ∧ Hid (acc.length + (limbs k).length ≤ 3)) (fun i _ _ => (intOf i).toNat)
    case atStart =>
      refine ⟨N, [], Nat.le_refl _, rfl, hown0, by simp, hb0, rfl, ?_⟩
      show 0 + _ ≤ 3
      have := (limbs_len (n := N) (k := 3)).2 (by omega)
      omega
    case round =>
      clear hown0 hb0
      obtain ⟨k, acc, hk, rfl, hown, hsz, hbl, H, H3⟩ := hrel
      by_cases hlt : 0 < k
      · have HS : Hid (limbs N = (acc ++ [((k % 1000000000 : Nat) : Int)]) ++ limbs (k / 1000000000)) := by
          show _ = _
          rw [H.out, limbs_pos hlt, List.append_assoc]; rfl
        have H3' : Hid ((acc ++ [((k % 1000000000 : Nat) : Int)]).length + (limbs (k / 1000000000)).length ≤ 3) := by
          have := H3.out
          rw [limbs_pos hlt, List.length_cons] at this
          show _ ≤ 3
          rw [List.length_append, List.length_singleton]; omega
        have hacc : acc.length ≤ 3 := by have := H3.out; omega
        clear H H3
        go_wp2_with (at_builtin; refine wpList_append1 Tryd.sliceInt rfl _ _ rfl wr w.heap.size _ _ _ hown rfl #[.int .i64 ((k : Int) % 1000000000)] 1 rfl rfl (by simp [Value.oneCell']) (by omega) (by omega) hsz ?_; intro v' w1 hown1 hb1)
        have hs1 := hb1.size
        go_roundw
        case rel =>
          refine ⟨k / 1000000000, acc ++ [((k % 1000000000 : Nat) : Int)], by omega, by go_num, ?_, by omega, hbl.trans hb1, HS, H3'⟩
          simpa [iv] using hown1
        case measure => simp [intOf]; omega
      · obtain rfl : k = 0 := by omega
        have HE : Hid (limbs N = acc) := by show _ = _; rw [H.out, limbs_zero, List.append_nil]
        clear H H3
        go_wp2_with fail
        go_ret
        exact ⟨_, rfl, by rw [HN.out, HE.out]; exact hown, hbl⟩
end Go.Proofs.YtapjblghnflekaaDoor
