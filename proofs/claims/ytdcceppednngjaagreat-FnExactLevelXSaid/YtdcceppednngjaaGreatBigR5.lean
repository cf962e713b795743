/-
  The reference's big integers: contracts (5): Cmp.
-/
import Derived.Test.YtdcceppednngjaaGreatBigR
import Derived.Test.YtdcceppednngjaaGreatRA
namespace Go.Proofs.YtdcceppednngjaaGreat
open Go.RowKit
set_option linter.unusedVariables false

theorem below_drewNC {B : Nat} {a w : World} (h : Below B a w) (n : Nat) : Below B a (w.drewN n) := ⟨h.os, h.tape, h.output, h.size, h.block⟩
theorem big_posR {xs : List Int} (h : bigB true xs = true) : 0 < val xs := by
  have hn := bigB_nat h
  have h0 := natB_zero hn
  have hv := natV_val hn
  unfold bigB at h
  simp only [hn, h0, Bool.true_and] at h
  have : natV xs ≠ 0 := by intro e; simp [e] at h
  omega
theorem cmpV_swapR (a b : Int) : cmpV (-a) (-b) = cmpV b a := by unfold cmpV; split <;> split <;> (try split) <;> omega
set_option maxHeartbeats 1600000 in
theorem spec_l03Cmp (w : World) (B : Nat) (hB : B ≤ w.heap.size) (s : Bool) (A : Option Addr) (n c : Nat) (xs : List Int) (Rx : RdI w B A n xs) (hx : bigB s xs = true) (t : Bool) (A' : Option Addr) (m c' : Nat) (ys : List Int) (Ry : RdI w B A' m ys) (hy : bigB t ys = true) :
    Calls Tryz.prog 55 #[.agg #[.bool s, .slice A n c], .agg #[.bool t, .slice A' m c']] w fun e w' => e = .returned (.int .i64 (cmpV (zv s xs) (zv t ys))) ∧ Below w.heap.size w w' := by
  have hb0 : Below w.heap.size w ((w.alloc (.cells #[.bool s, .slice A n c] 28)).alloc (.cells #[.bool t, .slice A' m c'] 28)) := below_alloc (below_new _ _) _
  have R0 := Rx.below (hb0.mono hB)
  have R1 := Ry.below (hb0.mono hB)
  have hxc := ((natB_iff xs).1 (bigB_nat hx)).1
  have hyc := ((natB_iff ys).1 (bigB_nat hy)).1
  have hl0 := Rx.2.2.1
  have hl1 := Ry.2.2.1
  have HC1 := hide (spec_Cmp _ B A A' n m c c' xs ys R0.1 R1.1 R0.2.1 R1.2.1 (by omega) (by omega) hxc hyc)
  have HC2 := hide (spec_Cmp _ B A' A m n c' c ys xs R1.1 R0.1 R1.2.1 R0.2.1 (by omega) (by omega) hyc hxc)
  have hvx := natV_nonneg (bigB_nat hx)
  have hvy := natV_nonneg (bigB_nat hy)
  cases s
  · cases t
    · have hz : cmpV (zv false xs) (zv false ys) = cmpV (val xs) (val ys) := rfl
      rw [hz]
      clear hz R0 R1 HC2
      go_enter Tryz.func55, Tryz.ntmps55
      go_wp2_with fail
      refine HC1.out.mono ?_
      rintro e w1 ⟨rfl, hd⟩
      have hb1 : Below w.heap.size w w1 := by obtain ⟨d, rfl⟩ := hd; exact below_drewNC hb0 d
      clear hd
      go_wp2_with fail
      go_ret
      exact ⟨rfl, hb1⟩
    · have hp := big_posR hy
      have hz : cmpV (zv false xs) (zv true ys) = 1 := by
        show cmpV (val xs) (-val ys) = 1
        exact cmpV_gt (by omega)
      rw [hz]
      clear hz R0 R1 HC1 HC2
      go_enter Tryz.func55, Tryz.ntmps55
      go_wp2_with fail
      go_ret
      exact ⟨rfl, hb0⟩
  · cases t
    · have hp := big_posR hx
      have hz : cmpV (zv true xs) (zv false ys) = -1 := by
        show cmpV (-val xs) (val ys) = -1
        exact cmpV_lt (by omega)
      rw [hz]
      clear hz R0 R1 HC1 HC2
      go_enter Tryz.func55, Tryz.ntmps55
      go_wp2_with fail
      go_ret
      exact ⟨rfl, hb0⟩
    · have hz : cmpV (zv true xs) (zv true ys) = cmpV (val ys) (val xs) := cmpV_swapR _ _
      rw [hz]
      clear hz R0 R1 HC1
      go_enter Tryz.func55, Tryz.ntmps55
      go_wp2_with fail
      refine HC2.out.mono ?_
      rintro e w1 ⟨rfl, hd⟩
      have hb1 : Below w.heap.size w w1 := by obtain ⟨d, rfl⟩ := hd; exact below_drewNC hb0 d
      clear hd
      go_wp2_with fail
      go_ret
      exact ⟨rfl, hb1⟩
end Go.Proofs.YtdcceppednngjaaGreat
