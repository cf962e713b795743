/-
  The exact laws' walks: WidthOf.
-/
import Derived.Test.YtdagomikjblgiaaVecL2
import Derived.Test.YtdagomikjblgiaaMinI3
import Derived.Test.YtdagomikjblgiaaMinR2
namespace Go.Proofs.Ytdagomikjblgiaa
open Go.RowKit
set_option linter.unusedVariables false
theorem loB_vec (l : List V2) : vecV (loB l) = true := by
  unfold loB
  split
  · rename_i h; exact loN_vec (polyB_iff.1 h) (Nat.le_refl _)
  · rfl
theorem hiB_vec (l : List V2) : vecV (hiB l) = true := by
  unfold hiB
  split
  · rename_i h; exact hiN_vec (polyB_iff.1 h) (Nat.le_refl _)
  · rfl
set_option maxHeartbeats 4000000 in
set_option maxRecDepth 100000 in
theorem FnExactWidthOf_walk (w : World) (a0 : Option Addr) (len0 cap0 : Nat) (xs0 : List V2) (f0 : IsVecs w a0 len0 cap0 xs0) :
    Calls Try.prog 7 #[.slice a0 len0 cap0] w fun e w' => e = .returned (.bool true) ∧ Below w.heap.size w w' := by
  have hm0 := f0.rd.2.2.1
  unfold maxLen at hm0
  by_cases c0 : 1048576 < len0
  · go_enter Try.func7, Try.ntmps7
    go_wp2_with fail
    refine (szVecS_no w a0 len0 cap0 (1048576) (by omega) (by unfold maxLen; omega) (by omega)).mono ?_
    rintro e w' ⟨rfl, rfl⟩
    go_wp2_with fail
    go_ret
    exact ⟨rfl, Below.refl _ _⟩
  have hn0 : len0 ≤ 1048576 := by omega
  clear c0
  have I0_0 := f0.rdV hn0
  have F0 := hide f0.rd.2.2.2
  clear f0
  have g1 := vecB_bounds (loB_vec xs0)
  have g2 := vecB_bounds (hiB_vec xs0)
  have HS := hide (fun (W : World) (R : RdV W W.heap.size a0 len0 xs0) => toVecS_any a0 len0 cap0 _ xs0 W R.1 R.2.1 (by omega) (by omega) F0.out)
  have HA := hide (fun (W : World) (A : Option Addr) (c : Nat) (R : RdV W W.heap.size A len0 xs0) => spec_WidthOf W W.heap.size (Nat.le_refl _) A len0 c xs0 R)
  have HI := hide (fun (W : World) (A : Option Addr) (c : Nat) (R : RdV W W.heap.size A len0 xs0) => impl_WidthOf W W.heap.size (Nat.le_refl _) A len0 c xs0 R)
  have HE1 := hide (fun (W : World) => eqVec_any W (loB xs0).1 (loB xs0).2 (WalkArith.wf_i64 ⟨by omega, by omega⟩) (WalkArith.wf_i64 ⟨by omega, by omega⟩))
  have HE2 := hide (fun (W : World) => eqVec_any W (hiB xs0).1 (hiB xs0).2 (WalkArith.wf_i64 ⟨by omega, by omega⟩) (WalkArith.wf_i64 ⟨by omega, by omega⟩))
  generalize (loB xs0).1 = x1 at *
  generalize (loB xs0).2 = y1 at *
  generalize (hiB xs0).1 = x2 at *
  generalize (hiB xs0).2 = y2 at *
  generalize polyB xs0 = p at *
  go_enter Try.func7, Try.ntmps7
  go_wp2_with fail
  refine (szVecS_ok w a0 len0 cap0 (1048576) (by omega) (by omega)).mono ?_
  rintro e w' ⟨rfl, rfl⟩
  go_wp2_with fail
  refine (HS.out w I0_0).mono ?_
  rintro e w1 ⟨g0, rfl, q0, hb1⟩
  have o1 := OwnV.of q0
  have R1 := o1.rdV hn0 F0.out
  clear q0 o1
  go_wp2_with fail
  refine (HA.out w1 _ _ R1).mono ?_
  rintro e w2 ⟨rfl, hb2⟩
  clear R1
  have hT2 := below_then hb1 hb2
  clear hb1 hb2
  obtain ⟨W3, hW3⟩ : ∃ W3, W3 = (w2.alloc (.cells #[.int .i64 x1, .int .i64 y1] 32)).alloc (.cells #[.int .i64 x2, .int .i64 y2] 32) := ⟨_, rfl⟩
  have hT3 : Below w.heap.size w W3 := by rw [hW3]; exact below_alloc (below_alloc hT2 _) _
  have k1 : Box W3 w2.heap.size 32 #[.int .i64 x1, .int .i64 y1] := by rw [hW3]; exact (Box.last _ _ _ rfl).alloc _
  have k2 : Box W3 (w2.heap.size + 1) 32 #[.int .i64 x2, .int .i64 y2] := by rw [hW3]; exact Box.last _ _ _ (alloc_size _ _).symm
  go_upto_region 6 with fail
  rw [← hW3]
  clear hW3 hT2
  go_wp2_with fail
  refine (HS.out W3 (I0_0.up hT3)).mono ?_
  rintro e w4 ⟨g4, rfl, q4, hb4⟩
  have o4 := OwnV.of q4
  have R4 := o4.rdV hn0 F0.out
  have k1 := k1.below hb4 k1.lt
  have k2 := k2.below hb4 k2.lt
  have hT4 := below_then hT3 hb4
  clear q4 hb4
  go_wp2_with fail
  refine (HI.out w4 _ _ R4).mono ?_
  rintro e w5 ⟨rfl, hb5⟩
  have k1 := k1.below hb5 k1.lt
  have k2 := k2.below hb5 k2.lt
  have hT5 := below_then hT4 hb5
  have o5 := o4.below hb5 (Nat.le_refl _)
  have hh5 := hb5.size
  clear R4 hb5
  obtain ⟨W6, hW6⟩ : ∃ W6, W6 = (w5.alloc (.cells #[.int .i64 x1, .int .i64 y1] 32)).alloc (.cells #[.int .i64 x2, .int .i64 y2] 32) := ⟨_, rfl⟩
  have hT56 : Below w5.heap.size w5 W6 := by rw [hW6]; exact below_alloc (below_new _ _) _
  have k3 : Box W6 w5.heap.size 32 #[.int .i64 x1, .int .i64 y1] := by rw [hW6]; exact (Box.last _ _ _ rfl).alloc _
  have k4 : Box W6 (w5.heap.size + 1) 32 #[.int .i64 x2, .int .i64 y2] := by rw [hW6]; exact Box.last _ _ _ (alloc_size _ _).symm
  go_upto_region 8 with fail
  rw [← hW6]
  clear hW6
  have k1 := k1.below hT56 k1.lt
  have k2 := k2.below hT56 k2.lt
  have hT6 := below_then hT5 hT56
  have o6 := o5.below hT56 (by omega)
  have hh6 := hT56.size
  clear o4 o5 hT56
  have K1 := hide k1
  have K2 := hide k2
  have K3 := hide k3
  have K4 := hide k4
  obtain ⟨c10, c11⟩ := k1.cells2
  obtain ⟨c30, c31⟩ := k3.cells2
  clear k1 k2 k3 k4
  go_wp2_with fail
  refine (HE1.out _).mono ?_
  rintro e w7 ⟨rfl, hb7⟩
  obtain ⟨c20, c21⟩ := (K2.out.below hb7 K2.out.lt).cells2
  obtain ⟨c40, c41⟩ := (K4.out.below hb7 K4.out.lt).cells2
  clear c10 c11 c30 c31
  go_wp2_with fail
  refine (HE2.out _).mono ?_
  rintro e w8 ⟨rfl, hb8⟩
  clear c20 c21 c40 c41
  have hT8 := below_then (below_then hT6 hb7) hb8
  have o8 := (o6.below hb7 (by omega)).below hb8 (by have := hb7.size; omega)
  have hh8 : w4.heap.size ≤ w8.heap.size := by have := hb7.size; have := hb8.size; omega
  clear o6 hb7 hb8 K1 K2 K3 K4
  have hpp : (p != p) = false := by simp
  go_wp2_with fail
  refine (HS.out w8 (I0_0.up hT8)).mono ?_
  rintro e w9 ⟨g9, rfl, q9, hb9⟩
  have o9 := OwnV.of q9
  have o10 := o8.below hb9 hh8
  have hT9 := below_then hT8 hb9
  have h1 := I0_0.1
  clear q9 o8
  have HV := hide (eqVecS_any (some ⟨g4, 0, none⟩) (some ⟨g9, 0, none⟩) len0 len0 len0 _ xs0 w9 h1 o10.rd o9.rd (Nat.le_refl _) (by omega) F0.out)
  clear h1 o9 o10 hpp
  go_wp2_with fail
  refine HV.out.mono ?_
  rintro e w10 ⟨rfl, hb10⟩
  go_wp2_with fail
  go_ret
  exact ⟨rfl, below_then hT9 hb10⟩
end Go.Proofs.Ytdagomikjblgiaa
