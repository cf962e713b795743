/-
  The laws' marks on lists of vectors: contracts.
-/
import Derived.Test.YtdcceppednngjaaVecL
namespace Go.Proofs.Ytdcceppednngjaa
open Go.RowKit
set_option linter.unusedVariables false
theorem szVecS_ok (w : World) (A : Option Addr) (n c k : Nat) (hk : k ≤ 1048576) (h : n ≤ k) :
    Calls Try.prog 31 #[.slice A n c, .int .i64 k] w fun e w' => e = .returned (.int .i64 ((k - n : Nat) : Int)) ∧ w = w' := by
  have e : ((k - n : Nat) : Int) = (k : Int) - (n : Int) := by omega
  rw [e]
  go_enter Try.func31, Try.ntmps31
  go_wp2_with fail
  go_ret
  exact ⟨rfl, rfl⟩
theorem szVecS_no (w : World) (A : Option Addr) (n c k : Nat) (hk : k ≤ 1048576) (hn : n ≤ maxLen) (h : k < n) :
    Calls Try.prog 31 #[.slice A n c, .int .i64 k] w fun e w' => e = .returned (.int .i64 (-1)) ∧ w = w' := by
  unfold maxLen at hn
  go_enter Try.func31, Try.ntmps31
  go_wp2_with fail
  go_ret
  exact ⟨rfl, rfl⟩
def markV (k n : Nat) : List V2 := (List.range n).map fun i => (((k + i * 2 : Nat) : Int), ((k + i * 2 + 1 : Nat) : Int))
theorem markV_len (k n : Nat) : (markV k n).length = n := by simp [markV]
theorem markV_at {k n i : Nat} (h : i < n) : (markV k n)[i]'(by rw [markV_len]; exact h) = (((k + i * 2 : Nat) : Int), ((k + i * 2 + 1 : Nat) : Int)) := by simp [markV]
theorem put_mark {w : World} {base g n c K : Nat} {E : TypeId} {ys : List Value} {k : Nat} {w0 : World} (h : w.ownsRow base E 2 (.slice (some ⟨g, 0, none⟩) n c) n (fillV (markV K n) ys k)) (hb : Below base w0 w) (hk : k < n) (hy : ys.length = n * 2) :
    (∃ u, w.cell? ⟨g, k * 2, none⟩ = some u) ∧ (∃ u, w.cell? ⟨g, k * 2 + 1, none⟩ = some u) ∧ w.frozen? ⟨g, k * 2, none⟩ = false ∧ w.frozen? ⟨g, k * 2 + 1, none⟩ = false ∧
    ((w.setCell ⟨g, k * 2, none⟩ (.int .i64 ((K + k * 2 : Nat) : Int))).setCell ⟨g, k * 2 + 1, none⟩ (.int .i64 ((K + k * 2 + 1 : Nat) : Int))).ownsRow base E 2 (.slice (some ⟨g, 0, none⟩) n c) n (fillV (markV K n) ys (k + 1)) ∧
    Below base w0 ((w.setCell ⟨g, k * 2, none⟩ (.int .i64 ((K + k * 2 : Nat) : Int))).setCell ⟨g, k * 2 + 1, none⟩ (.int .i64 ((K + k * 2 + 1 : Nat) : Int))) := by
  have := put_vec h hb (by rw [markV_len]; exact hk) (by rw [markV_len]; exact hy)
  simpa only [markV_at hk] using this
set_option maxHeartbeats 400000 in
theorem markVecS_own (v : Value) (n k E lo hi : Nat) (xs : List V2) (w : World) (o : OwnV w lo hi E v n xs) (hl : n ≤ 1000000000) (hk : k ≤ 1000000000) :
    Calls Try.prog 40 #[v, .int .i64 k] w fun e w' => e = .returned (.int .i64 ((k + n * 2 : Nat) : Int)) ∧ OwnV w' lo hi E v n (markV k n) ∧ Aside lo hi w w' := by
  obtain ⟨hown, hgs⟩ := o
  have hyl : (fl xs).length = n * 2 := hown.1
  rcases own_form hown with ⟨rfl, rfl, hxs⟩ | ⟨g, c, rfl, hbg, hg⟩
  · go_enter Try.func40, Try.ntmps40
    go_wp2
    refine wp_loop_rounds 1 ?_
    rw [rounds_succ]
    go_wp2
    go_ret
    exact ⟨rfl, OwnV.nil _ _ _ _, Aside.refl _⟩
  · clear hg
    have hgh : g < hi := hgs g rfl
    generalize fl xs = ys at *
    clear hgs
    go_enter Try.func40, Try.ntmps40
    go_wp2
    go_loopw [1, 5] (fun q i wr => ∃ j : Nat, j ≤ n ∧ q = .int .i64 ((k + j * 2 : Nat) : Int) ∧ i = .int .i64 j ∧ wr.ownsRow lo E 2 (.slice (some ⟨g, 0, none⟩) n c) n (fillV (markV k n) ys j) ∧ Aside lo hi w wr) (fun _ i _ => n - (intOf i).toNat)
    case atStart => exact ⟨0, Nat.zero_le _, rfl, rfl, by rw [fillV_zero]; exact hown, Aside.refl _⟩
    case round =>
      clear hown
      obtain ⟨j, hj, rfl, rfl, hown, ha⟩ := hrel
      by_cases hlt : j < n
      · obtain ⟨⟨u1, c1⟩, ⟨u2, c2⟩, r1, r2, o, -⟩ := put_mark hown (Below.refl _ _) hlt hyl
        have H1 := hide (And.intro o ((ha.setCell (a := ⟨g, j * 2, none⟩) hbg hgh (.int .i64 ((k + j * 2 : Nat) : Int))).setCell (a := ⟨g, j * 2 + 1, none⟩) hbg hgh (.int .i64 ((k + j * 2 + 1 : Nat) : Int))))
        clear o hown ha
        have e1 : ((k + j * 2 + 1 : Nat) : Int) = ((k + j * 2 : Nat) : Int) + 1 := by omega
        rw [e1] at H1
        have hq0 : (0 : Int) ≤ ((k + j * 2 : Nat) : Int) ∧ ((k + j * 2 : Nat) : Int) ≤ 4000000000 := by omega
        generalize hq : ((k + j * 2 : Nat) : Int) = q at *
        go_wp2_with fail
        go_roundw
        case rel => exact ⟨j + 1, by omega, by rw [← hq]; go_num, by go_num, H1.out.1, H1.out.2⟩
        case measure => simp [intOf]; omega
      · obtain rfl : j = n := by omega
        have hf : fillV (markV k j) ys j = fl (markV k j) := by
          have := fillV_all (vs := markV k j) (ys := ys) (by rw [markV_len]; exact hyl)
          rwa [markV_len] at this
        rw [hf] at hown
        clear hf
        go_wp2
        go_ret
        exact ⟨rfl, ⟨hown, fun g' hg' => by simp [Value.ownBlock] at hg'; omega⟩, ha⟩
end Go.Proofs.Ytdcceppednngjaa
