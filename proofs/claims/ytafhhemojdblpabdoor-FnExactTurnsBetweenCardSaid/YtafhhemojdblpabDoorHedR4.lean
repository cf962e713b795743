/-
  The reference's headings: contracts: TurnsBetween.
-/
import Derived.Test.YtafhhemojdblpabDoorHedP
import Derived.Test.YtafhhemojdblpabDoorRA
import Derived.Test.YtafhhemojdblpabDoorMem
namespace Go.Proofs.YtafhhemojdblpabDoor
open Go.RowKit
set_option linter.unusedVariables false
theorem spec_TurnsBetween (w : World) (B : Nat) (hB : B ≤ w.heap.size) (g : Int) (fg : (Lit.int .i64 g).wf = true) (h : Int) (fh : (Lit.int .i64 h).wf = true) :
    Calls Tryd.prog 4 #[.int .i64 g, .int .i64 h] w fun e w' => ∃ v, e = .returned v ∧ w'.ownsRow w.heap.size 3 1 v (btw g h).length (iv (btw g h)) ∧ Below w.heap.size w w' := by
  by_cases c : 0 ≤ g ∧ g ≤ 3
  case neg =>
    have HC1 := hide (l01In_all g 0 3 w false (by show false = _; rw [decide_eq_false c]))
    have HN : Hid (btw g h = []) := btw_no fun k => c k.1
    go_enter Tryd.func4, Tryd.ntmps4
    go_wp2_with fail
    refine HC1.out.mono ?_
    rintro e w1 ⟨rfl, rfl⟩
    go_wp2_with fail
    go_ret
    exact ⟨_, rfl, by rw [HN.out]; exact World.ownsRow_nil _ _ _ _, Below.refl _ _⟩
  have HC1 := hide (l01In_all g 0 3 w true (by show true = _; rw [decide_eq_true c]))
  by_cases c' : 0 ≤ h ∧ h ≤ 3
  case neg =>
    have HC2 := hide (l01In_all h 0 3 w false (by show false = _; rw [decide_eq_false c']))
    have HN : Hid (btw g h = []) := btw_no fun k => c' k.2
    go_enter Tryd.func4, Tryd.ntmps4
    go_wp2_with fail
    refine HC1.out.mono ?_
    rintro e w1 ⟨rfl, rfl⟩
    go_wp2_with fail
    refine HC2.out.mono ?_
    rintro e w1 ⟨rfl, rfl⟩
    go_wp2_with fail
    go_ret
    exact ⟨_, rfl, by rw [HN.out]; exact World.ownsRow_nil _ _ _ _, Below.refl _ _⟩
  have HC2 := hide (l01In_all h 0 3 w true (by show true = _; rw [decide_eq_true c']))
  obtain ⟨d, hd⟩ : ∃ d, (h - g) % 4 = d := ⟨_, rfl⟩
  have HB := hide (btw_yes c c' hd)
  have hdr : 0 ≤ d ∧ d < 4 := by omega
  have hd2 : (h + 4 - g) % 4 = d := by omega
  clear hd fg fh
  rcases (show d = 0 ∨ d = 1 ∨ d = 2 ∨ d = 3 by omega) with rfl | rfl | rfl | rfl
  · replace HB : Hid (btw g h = []) := HB.out
    clear hdr
    go_enter Tryd.func4, Tryd.ntmps4
    go_wp2_with fail
    refine HC1.out.mono ?_
    rintro e w1 ⟨rfl, rfl⟩
    go_wp2_with fail
    refine HC2.out.mono ?_
    rintro e w1 ⟨rfl, rfl⟩
    go_wp2_with fail
    go_ret
    refine ⟨_, rfl, ?_, below_new _ _⟩
    rw [HB.out]
    exact World.ownsRow_lit (e := 3) (size := 1) _ #[] 0 (Nat.le_refl _) (by unfold maxLen; omega) rfl
  · replace HB : Hid (btw g h = [1]) := HB.out
    clear hdr
    go_enter Tryd.func4, Tryd.ntmps4
    go_wp2_with fail
    refine HC1.out.mono ?_
    rintro e w1 ⟨rfl, rfl⟩
    go_wp2_with fail
    refine HC2.out.mono ?_
    rintro e w1 ⟨rfl, rfl⟩
    go_wp2_with fail
    go_ret
    refine ⟨_, rfl, ?_, below_new _ _⟩
    rw [HB.out]
    exact World.ownsRow_lit (e := 3) (size := 1) _ #[.int .i64 1] 1 (Nat.le_refl _) (by unfold maxLen; omega) rfl
  · replace HB : Hid (btw g h = [1, 1]) := HB.out
    clear hdr
    go_enter Tryd.func4, Tryd.ntmps4
    go_wp2_with fail
    refine HC1.out.mono ?_
    rintro e w1 ⟨rfl, rfl⟩
    go_wp2_with fail
    refine HC2.out.mono ?_
    rintro e w1 ⟨rfl, rfl⟩
    go_wp2_with fail
    go_ret
    refine ⟨_, rfl, ?_, below_new _ _⟩
    rw [HB.out]
    exact World.ownsRow_lit (e := 3) (size := 1) _ #[.int .i64 1, .int .i64 1] 2 (Nat.le_refl _) (by unfold maxLen; omega) rfl
  · replace HB : Hid (btw g h = [-1]) := HB.out
    clear hdr
    go_enter Tryd.func4, Tryd.ntmps4
    go_wp2_with fail
    refine HC1.out.mono ?_
    rintro e w1 ⟨rfl, rfl⟩
    go_wp2_with fail
    refine HC2.out.mono ?_
    rintro e w1 ⟨rfl, rfl⟩
    go_wp2_with fail
    go_ret
    refine ⟨_, rfl, ?_, below_new _ _⟩
    rw [HB.out]
    exact World.ownsRow_lit (e := 3) (size := 1) _ #[.int .i64 (-1)] 1 (Nat.le_refl _) (by unfold maxLen; omega) rfl
end Go.Proofs.YtafhhemojdblpabDoor
