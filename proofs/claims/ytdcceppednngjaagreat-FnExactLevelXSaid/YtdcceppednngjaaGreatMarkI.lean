/-
  The laws' helpers for lists of integers: markIntS, heldIntS: contracts.
-/
import Derived.Test.YtdcceppednngjaaGreatOwn
namespace Go.Proofs.YtdcceppednngjaaGreat
open Go.RowKit
set_option linter.unusedVariables false

/-! ### markIntS, heldIntS: the marks from k on -/
def marksI (k n : Nat) : List Int := (List.range n).map fun i => ((k + i : Nat) : Int)
theorem marksI_len (k n : Nat) : (marksI k n).length = n := by simp [marksI]
theorem marksI_at {k n i : Nat} (h : i < n) : (marksI k n)[i]'(by rw [marksI_len]; exact h) = ((k + i : Nat) : Int) := by simp [marksI]
def markFI (k : Nat) (i : Nat) : Value := .int .i64 ((k + i : Nat) : Int)
theorem marksI_fill {k n : Nat} {ys : List Value} (h : ys.length = n) : fillTo (markFI k) ys n = iv (marksI k n) := by
  rw [fillTo_all h]; simp [iv, marksI, markFI, Function.comp_def]

set_option maxHeartbeats 400000 in
theorem heldIntS_any (A : Option Addr) (n c k B : Nat) (w : World) (hx : Rd w B A (iv (marksI k n))) (hl : n ≤ 1000000000) (hk : k ≤ 1000000000) :
    Calls Tryz.prog 30 #[.slice A n c, .int .i64 k] w fun e w' => e = .returned (.int .i64 ((k + n : Nat) : Int)) ∧ w = w' := by
  go_enter Tryz.func30, Tryz.ntmps30
  go_wp2
  go_loop [1, 5] (fun q i => ∃ j : Nat, j ≤ n ∧ q = .int .i64 ((k + j : Nat) : Int) ∧ i = .int .i64 j) (fun _ i => n - (intOf i).toNat)
  case atStart => exact ⟨0, Nat.zero_le _, rfl, rfl⟩
  case round =>
    obtain ⟨j, hj, rfl, rfl⟩ := hrel
    by_cases hlt : j < n
    · obtain ⟨ad, hA, hb1, hc1⟩ := hx.int (k := j) (by rw [marksI_len]; exact hlt)
      rw [marksI_at hlt] at hc1
      have hq : (((k : Int) + (j : Int)) != ((k : Int) + (j : Int))) = false := by simp
      clear hx
      subst hA
      go_wp2
      go_round
      case rel => exact ⟨j + 1, by omega, by go_num, by go_num⟩
      case measure => simp [intOf]; omega
    · obtain rfl : j = n := by omega
      go_wp2
      go_ret
      exact ⟨rfl, rfl⟩

set_option maxHeartbeats 400000 in
theorem markIntS_own (v : Value) (n k E lo hi : Nat) (xs : List Value) (w : World) (o : Own w lo hi E v n xs) (hl : n ≤ 1000000000) (hk : k ≤ 1000000000) :
    Calls Tryz.prog 28 #[v, .int .i64 k] w fun e w' => e = .returned (.int .i64 ((k + n : Nat) : Int)) ∧ Own w' lo hi E v n (iv (marksI k n)) ∧ Aside lo hi w w' := by
  have hxl := o.len
  have hcp : ∀ A c, v = .slice A n c → n ≤ c ∧ c ≤ maxLen := fun A c hv => by subst hv; exact o.cap
  rcases o.row with ⟨rfl, rfl⟩ | ⟨g, c, zs, rfl, hbg, hgh, hnz, hzt, hown⟩
  · go_enter Tryz.func28, Tryz.ntmps28
    go_wp2
    refine wp_loop_rounds 1 ?_
    rw [rounds_succ]
    go_wp2
    go_ret
    exact ⟨rfl, Own.nil _ _ _ _, Aside.refl _⟩
  · have HCP := hide (hcp _ _ rfl)
    clear o hcp
    have hzl : zs.length ≤ maxLen := by
      rcases hown.2 with ⟨h', _⟩ | ⟨g', c', cur, hv, _, _, hnc, hcm, _⟩
      · cases h'
      · omega
    unfold maxLen at hzl
    go_enter Tryz.func28, Tryz.ntmps28
    go_wp2
    go_loopw [1, 5] (fun q i wr => ∃ j : Nat, j ≤ n ∧ q = .int .i64 ((k + j : Nat) : Int) ∧ i = .int .i64 j ∧ wr.ownsRow g E 1 (.slice (some ⟨g, 0, none⟩) zs.length zs.length) zs.length (fillTo (markFI k) zs j) ∧ Aside lo hi w wr) (fun _ i _ => n - (intOf i).toNat)
    case atStart => exact ⟨0, Nat.zero_le _, rfl, rfl, by rw [fillTo_zero]; exact hown, Aside.refl _⟩
    case round =>
      clear hown
      obtain ⟨j, hj, rfl, rfl, hown, ha⟩ := hrel
      by_cases hlt : j < n
      · have hfr1 := hown.frozenAt j
        obtain ⟨u1, hu1⟩ := own_cell hown (show j < zs.length by omega)
        obtain ⟨h1, h2⟩ := hown.stored j (.int .i64 ((k : Int) + (j : Int)))
        rw [show Value.int IntKind.i64 ((k : Int) + (j : Int)) = markFI k j by simp [markFI], fillTo_step (by omega)] at h1
        have H1 := hide h1
        clear h1 h2
        go_wp2
        go_roundw
        case rel =>
          have e : Value.int IntKind.i64 ((k : Int) + (j : Int)) = markFI k j := by simp [markFI]
          exact ⟨j + 1, by omega, by go_num, by go_num, by rw [e]; exact H1.out, ha.setCell hbg hgh _⟩
        case measure => simp [intOf]; omega
      · obtain rfl : j = n := by omega
        go_wp2
        go_ret
        refine ⟨rfl, ⟨by rw [iv_len, marksI_len], ?_⟩, ha⟩
        rcases hown.2 with ⟨h', _⟩ | ⟨g', c', cur, hv, _, hg, hnc, hcm, hcs, ht⟩
        · cases h'
        · have e : g' = g := by injection hv with hv _ _; injection hv with hv; injection hv with hv; exact hv.symm
          subst e
          refine .inr ⟨g', c, cur, rfl, hbg, hgh, by omega, by omega, hg, ?_, HCP.out.1, HCP.out.2⟩
          have e3 : cur.toList.take j = ((cur.toList.take (zs.length * 1))).take j := by rw [List.take_take]; congr 1; omega
          rw [e3, ht, ← marksI_fill (k := k) hxl, fillTo, fillTo, List.take_append_of_le_length (by simp)]
          rw [List.take_of_length_le (by simp), List.drop_of_length_le (by omega), List.append_nil]
end Go.Proofs.YtdcceppednngjaaGreat
