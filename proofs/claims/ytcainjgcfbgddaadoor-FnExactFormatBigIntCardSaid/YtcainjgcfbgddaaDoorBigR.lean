/-
  The reference's big integers: contracts (1): Ok, l03Make.
-/
import Derived.Test.YtcainjgcfbgddaaDoorNatR
import Derived.Test.YtcainjgcfbgddaaDoorNatLen
import Derived.Test.YtcainjgcfbgddaaDoorBigP
import Derived.Test.YtcainjgcfbgddaaDoorBigM
namespace Go.Proofs.YtcainjgcfbgddaaDoor
open Go.RowKit
set_option linter.unusedVariables false

theorem isEmpty_len {xs : List Int} {n : Nat} (h : xs.length = n) : xs.isEmpty = ((n : Int) == 0) := by
  subst h; cases xs with
  | nil => rfl
  | cons a l => simp; omega
theorem notEmpty_len {xs : List Int} {n : Nat} (h : xs.length = n) : (!xs.isEmpty) = decide (0 < (n : Int)) := by
  subst h; cases xs with
  | nil => rfl
  | cons a l => simp
theorem Rd.take {w : World} {B : Nat} {A : Option Addr} {xs : List Value} (h : Rd w B A xs) (m : Nat) : Rd w B A (xs.take m) := by
  rcases h with e | ⟨ad, hA, hb, hc⟩
  · subst e; exact .inl (by simp)
  · refine .inr ⟨ad, hA, hb, fun k u hu => hc k u ?_⟩
    rw [List.getElem?_take] at hu
    split at hu
    · exact hu
    · cases hu
set_option maxHeartbeats 800000 in
theorem spec_BigIntOk (w : World) (B : Nat) (hB : B ≤ w.heap.size) (s : Bool) (A : Option Addr) (n c : Nat) (xs : List Int) (R : RdI w B A n xs) :
    Calls Tryd.prog 10 #[.agg #[.bool s, .slice A n c]] w fun e w' => e = .returned (.bool (bigB s xs)) ∧ Below w.heap.size w w' := by
  have hb0 := below_new w (.cells #[.bool s, .slice A n c] 27)
  have hs0 := hb0.size
  have R1 := R.below (hb0.mono hB)
  have HC := hide (spec_NatOk _ B (by omega) A n c xs R1)
  have hxl := R.1
  clear R1
  by_cases hn : natB xs = true
  · rw [hn] at HC
    cases s
    · have hv : bigB false xs = true := by rw [bigB, hn]; rfl
      rw [hv]
      go_enter Tryd.func10, Tryd.ntmps10
      go_wp2_with fail
      refine HC.out.mono ?_
      rintro e w1 ⟨rfl, rfl⟩
      go_wp2_with fail
      go_ret
      exact ⟨rfl, hb0⟩
    · have hv : bigB true xs = decide (0 < (n : Int)) := by rw [bigB, hn, ← notEmpty_len hxl]; rfl
      rw [hv]
      clear hv
      go_enter Tryd.func10, Tryd.ntmps10
      go_wp2_with fail
      refine HC.out.mono ?_
      rintro e w1 ⟨rfl, rfl⟩
      by_cases h0 : 0 < (n : Int)
      · go_wp2_with fail
        go_ret
        exact ⟨by simp [h0], hb0⟩
      · go_wp2_with fail
        go_ret
        exact ⟨by simp [h0], hb0⟩
  · have hn : natB xs = false := by simpa using hn
    rw [hn] at HC
    rw [bigB_bad hn]
    go_enter Tryd.func10, Tryd.ntmps10
    go_wp2_with fail
    refine HC.out.mono ?_
    rintro e w1 ⟨rfl, rfl⟩
    go_wp2_with fail
    go_ret
    exact ⟨rfl, hb0⟩
theorem own_zero (w : World) (E : TypeId) : (w.alloc (.cells #[] E)).ownsRow w.heap.size E 1 (.slice (some ⟨w.heap.size, 0, none⟩) 0 0) 0 [] :=
  ⟨rfl, .inr ⟨w.heap.size, 0, #[], rfl, Nat.le_refl _, heap_last rfl, Nat.le_refl _, by unfold maxLen; omega, rfl, rfl⟩⟩
theorem capT_len (xs : List Int) : (capT xs).length ≤ 60 := by unfold capT; split <;> simp_all
theorem make_end {w W W' : World} {E F : TypeId} {a b v : Value} {L : List Int} (x : Bool) (k : Box W' w.heap.size E #[a, b]) (o : W'.ownsRow (w.heap.size + 1) F 1 v L.length (iv L)) (hb : Below w.heap.size w W) (hb2 : Below (w.heap.size + 1) W W') :
    Box ((W'.setCell ⟨w.heap.size, 0, none⟩ (.bool x)).setCell ⟨w.heap.size, 1, none⟩ v) w.heap.size E #[.bool x, v] ∧ Own ((W'.setCell ⟨w.heap.size, 0, none⟩ (.bool x)).setCell ⟨w.heap.size, 1, none⟩ v) w.heap.size ((W'.setCell ⟨w.heap.size, 0, none⟩ (.bool x)).setCell ⟨w.heap.size, 1, none⟩ v).heap.size F v L.length (iv L) ∧ Below w.heap.size w ((W'.setCell ⟨w.heap.size, 0, none⟩ (.bool x)).setCell ⟨w.heap.size, 1, none⟩ v) := by
  have o2 := Own.of_row o (Nat.le_refl _)
  exact ret_big k o2 (hb.trans (hb2.mono (Nat.le_succ _))) (Nat.le_refl _) (Nat.lt_succ_self _) (Nat.le_refl _)
end Go.Proofs.YtcainjgcfbgddaaDoor
