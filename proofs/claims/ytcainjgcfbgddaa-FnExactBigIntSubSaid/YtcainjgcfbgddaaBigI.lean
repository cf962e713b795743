/-
  The program's big integers: contracts (1): signedOf, isNatural, isZero, isValid, bigInt.
-/
import Derived.Test.YtcainjgcfbgddaaNatI3
import Derived.Test.YtcainjgcfbgddaaBigM
import Derived.Test.YtcainjgcfbgddaaBigP
import Derived.Deep.RegionHeld3
namespace Go.Proofs.Ytcainjgcfbgddaa
open Go.RowKit
set_option maxHeartbeats 400000 in
theorem impl_signedOf (w : World) (s : Bool) (A : Option Addr) (n c : Nat) :
    Calls Try.prog 44 #[.agg #[.bool s, .slice A n c]] w fun e w' => e = .returned (.agg #[.slice A n c, .bool s]) ∧ Below w.heap.size w w' := by
  go_enter Try.func44, Try.ntmps44
  go_wp2_with fail
  refine bodyPost_ret (results_cell_row rfl _ _ (w.heap.size + 1) _ #[.slice A n c, .bool s] (0, 0) _ rfl (heap_last (alloc_size _ _).symm) Try.underlying52 rfl Try.sizeSigned) rfl ?_
  exact ⟨rfl, ((Below.refl _ _).alloc (Nat.le_refl _) _).alloc (by rw [alloc_size]; omega) _⟩
set_option maxHeartbeats 400000 in
theorem impl_isNatural (w : World) (B : Nat) (hB : B ≤ w.heap.size) (A : Option Addr) (n c : Nat) (xs : List Int) (R : RdI w B A n xs) :
    Calls Try.prog 71 #[.slice A n c] w fun e w' => e = .returned (.bool (natB xs)) ∧ w = w' := by
  go_enter Try.func71, Try.ntmps71
  go_wp2_with fail
  refine (impl_NatOk w B hB A n c xs R).mono ?_
  rintro e w1 ⟨rfl, rfl⟩
  go_wp2_with fail
  go_ret
  exact ⟨rfl, rfl⟩
set_option maxHeartbeats 400000 in
theorem impl_isZero (w : World) (A : Option Addr) (n c : Nat) (xs : List Int) (hn : xs.length = n) :
    Calls Try.prog 72 #[.slice A n c] w fun e w' => e = .returned (.bool xs.isEmpty) ∧ w = w' := by
  rw [isEmpty_len hn]
  go_enter Try.func72, Try.ntmps72
  go_wp2_with fail
  go_ret
  exact ⟨rfl, rfl⟩
set_option maxHeartbeats 400000 in
theorem impl_isValid (w : World) (B : Nat) (hB : B ≤ w.heap.size) (s : Bool) (A : Option Addr) (n c : Nat) (xs : List Int) (R : RdI w B A n xs) :
    Calls Try.prog 45 #[.agg #[.slice A n c, .bool s]] w fun e w' => e = .returned (.bool (bigB s xs)) ∧ Below w.heap.size w w' := by
  have hb0 : Below w.heap.size w (w.alloc (.cells #[.slice A n c, .bool s] 52)) := (Below.refl _ _).alloc (Nat.le_refl _) _
  have hs := alloc_size w (.cells #[.slice A n c, .bool s] 52)
  have R1 := R.below (hb0.mono hB)
  by_cases hn : natB xs = true
  · cases s
    · have hv : bigB false xs = true := by rw [bigB, hn]; rfl
      rw [hv]
      go_enter Try.func45, Try.ntmps45
      go_wp2_with fail
      refine (impl_isNatural _ B (by omega) A n c xs R1).mono ?_
      rintro e w1 ⟨rfl, rfl⟩
      rw [hn]
      go_wp2_with fail
      go_ret
      exact ⟨rfl, hb0⟩
    · have hv : bigB true xs = !xs.isEmpty := by rw [bigB, hn]; rfl
      rw [hv]
      go_enter Try.func45, Try.ntmps45
      go_wp2_with fail
      refine (impl_isNatural _ B (by omega) A n c xs R1).mono ?_
      rintro e w1 ⟨rfl, rfl⟩
      rw [hn]
      go_wp2_with fail
      refine (impl_isZero _ A n c xs R.1).mono ?_
      rintro e w1 ⟨rfl, rfl⟩
      go_wp2_with fail
      go_ret
      exact ⟨rfl, hb0⟩
  · have hn : natB xs = false := by simpa using hn
    rw [bigB_bad hn]
    go_enter Try.func45, Try.ntmps45
    go_wp2_with fail
    refine (impl_isNatural _ B (by omega) A n c xs R1).mono ?_
    rintro e w1 ⟨rfl, rfl⟩
    rw [hn]
    go_wp2_with fail
    go_ret
    exact ⟨rfl, hb0⟩
set_option maxHeartbeats 1600000 in
theorem impl_bigInt (w : World) (s : Bool) (A : Option Addr) (n c : Nat) (xs : List Int) (hn : xs.length = n) :
    Calls Try.prog 49 #[.agg #[.slice A n c, .bool s]] w fun e w' => e = .returned (.agg #[.bool (s && !xs.isEmpty), .slice A n c]) ∧ Below w.heap.size w w' := by
  obtain ⟨W, hW⟩ : ∃ W, W = (w.alloc (.cells #[.slice A n c, .bool s] 52)).alloc (.cells #[.bool false, .slice none 0 0] 27) := ⟨_, rfl⟩
  have hb : Below w.heap.size w W := by rw [hW]; exact ((Below.refl _ _).alloc (Nat.le_refl _) _).alloc (by rw [alloc_size]; omega) _
  have k1 : Box W w.heap.size 52 #[.slice A n c, .bool s] := by rw [hW]; exact (Box.last w _ _ rfl).alloc _
  have k2 : Box W (w.heap.size + 1) 27 #[.bool false, .slice none 0 0] := by rw [hW]; exact Box.last _ _ _ (alloc_size _ _).symm
  have c0 := k1.cell 0
  have c1 := k1.cell 1
  have z0 := k2.frozen 0
  have z1 := k2.frozen 1
  have d0 := k2.cell 0
  have d1 := k2.cell 1
  simp only [List.getElem?_toArray, List.getElem?_cons_zero, List.getElem?_cons_succ] at c0 c1 d0 d1
  have HB := hide hb
  have HK := hide k2
  clear hb k2 k1
  go_enter Try.func49, Try.ntmps49
  have hres : ∀ b : Bool, Box (((W.setCell ⟨w.heap.size + 1, 0, none⟩ (.bool b)).setCell ⟨w.heap.size + 1, 1, none⟩ (.slice A n c)).drew) (w.heap.size + 1) 27 #[.bool b, .slice A n c] ∧ Below w.heap.size w ((W.setCell ⟨w.heap.size + 1, 0, none⟩ (.bool b)).setCell ⟨w.heap.size + 1, 1, none⟩ (.slice A n c)).drew := fun b =>
    ⟨(HK.out.set 0 _).set 1 _, ((HB.out.setCell (by show w.heap.size ≤ w.heap.size + 1; omega) _).setCell (by show w.heap.size ≤ w.heap.size + 1; omega) _).drew⟩
  have HR := hide hres
  clear hres
  cases s
  · go_wp2_with fail
    rw [← hW]
    clear hW
    (first | go_region_with (fail) | done)
    all_goals
      go_wp2_with fail
      refine bodyPost_ret (results_cell_row rfl _ _ (w.heap.size + 1) _ #[.bool false, .slice A n c] (0, 0) _ rfl (HR.out _).1 Try.underlying27 rfl Try.sizeBig) rfl ?_
      exact ⟨rfl, (HR.out _).2⟩
  · go_wp2_with fail
    rw [← hW]
    clear hW
    (first | go_region_held3 (fun w' => w'.cell? ⟨w.heap.size, 0, none⟩ = some (.slice A n c) ∧ w'.cell? ⟨w.heap.size, 1, none⟩ = some (.bool true)) (go_keep)
      (first | (go_at_call 72; refine (impl_isZero _ A n c xs hn).mono ?_; rintro e w1 ⟨rfl, rfl⟩)) | done)
    all_goals
      go_wp2_with fail
      refine bodyPost_ret (results_cell_row rfl _ _ (w.heap.size + 1) _ #[.bool (!xs.isEmpty), .slice A n c] (0, 0) _ rfl (HR.out _).1 Try.underlying27 rfl Try.sizeBig) rfl ?_
      exact ⟨rfl, (HR.out _).2⟩
end Go.Proofs.Ytcainjgcfbgddaa
