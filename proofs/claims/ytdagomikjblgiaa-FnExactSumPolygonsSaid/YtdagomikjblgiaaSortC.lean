/-
  The program's order of vectors: contracts: cmp.Or, compareVecs.
-/
import Derived.Test.YtdagomikjblgiaaHulM
import Derived.Test.YtdagomikjblgiaaIA
import Derived.Deep.RegionHeld3
import Derived.Sort.AtCall
namespace Go.Proofs.Ytdagomikjblgiaa
open Go.RowKit Go.Sort
set_option linter.unusedVariables false
theorem impl_Or (w : World) (g : Nat) (a b : Int) (ha : w.cell? ⟨g, 0, none⟩ = some (.int .i64 a)) (hb : w.cell? ⟨g, 1, none⟩ = some (.int .i64 b)) :
    Calls Try.prog 81 #[.slice (some ⟨g, 0, none⟩) 2 2] w fun e w' => e = .returned (.int .i64 (if a = 0 then b else a)) ∧ w' = w := by
  by_cases h0 : a = 0
  · subst h0
    by_cases h1 : b = 0
    · subst h1
      go_enter Try.func81, Try.ntmps81
      go_wp2
      refine wp_loop_rounds 3 ?_
      rw [rounds_succ]
      go_wp2
      rw [rounds_succ]
      go_wp2
      rw [rounds_succ]
      go_wp2
      go_ret
      exact ⟨rfl, rfl⟩
    · have hz : (b != 0) = true := by simpa using h1
      go_enter Try.func81, Try.ntmps81
      go_wp2
      refine wp_loop_rounds 3 ?_
      rw [rounds_succ]
      go_wp2
      rw [rounds_succ]
      go_wp2
      go_ret
      exact ⟨rfl, rfl⟩
  · have hz : (a != 0) = true := by simpa using h0
    rw [if_neg h0]
    go_enter Try.func81, Try.ntmps81
    go_wp2
    refine wp_loop_rounds 3 ?_
    rw [rounds_succ]
    go_wp2
    go_ret
    exact ⟨rfl, rfl⟩
/-- first by X, then by Y -/
def cmp2 (a b : V2) : Int := if cmpV a.1 b.1 = 0 then cmpV a.2 b.2 else cmpV a.1 b.1
/-- w' is w with blocks laid behind it and draws made -/
def Grown (w w' : World) : Prop := ∃ q os, w' = grow (w.drewN q) os
theorem Grown.refl (w : World) : Grown w w := ⟨0, #[], by rw [grow_empty]; rfl⟩
theorem Grown.drew {w w' : World} (h : Grown w w') : Grown w w'.drew := by
  obtain ⟨q, os, rfl⟩ := h
  exact ⟨q + 1, os, rfl⟩
theorem Grown.alloc {w w' : World} (h : Grown w w') (o : Obj) : Grown w (w'.alloc o) := by
  obtain ⟨q, os, rfl⟩ := h
  exact ⟨q, os ++ #[o], by rw [alloc_eq_grow, grow_grow]⟩
set_option maxRecDepth 100000 in
set_option maxHeartbeats 1600000 in
theorem impl_compareVecs (w : World) (a b : V2) :
    Calls Try.prog 54 #[.agg #[.int .i64 a.1, .int .i64 a.2], .agg #[.int .i64 b.1, .int .i64 b.2]] w fun e w' => e = .returned (.int .i64 (cmp2 a b)) ∧ Grown w w' := by
  obtain ⟨x0, y0⟩ := a
  obtain ⟨x1, y1⟩ := b
  simp only
  have HC1 := hide (fun (W : World) => impl_Compare W x0 x1)
  have HC2 := hide (fun (W : World) => impl_Compare W y0 y1)
  have HV : Hid (cmp2 (x0, y0) (x1, y1) = if cmpV x0 x1 = 0 then cmpV y0 y1 else cmpV x0 x1) := rfl
  generalize cmpV x0 x1 = c1 at *
  generalize cmpV y0 y1 = c2 at *
  generalize cmp2 (x0, y0) (x1, y1) = V at HV ⊢
  obtain ⟨W0, hW0⟩ : ∃ W0, W0 = (w.alloc (.cells #[.int .i64 x0, .int .i64 y0] 32)).alloc (.cells #[.int .i64 x1, .int .i64 y1] 32) := ⟨_, rfl⟩
  have ka : Box W0 w.heap.size 32 #[.int .i64 x0, .int .i64 y0] := by rw [hW0]; exact (Box.last _ _ _ rfl).alloc _
  have kb : Box W0 (w.heap.size + 1) 32 #[.int .i64 x1, .int .i64 y1] := by rw [hW0]; exact Box.last _ _ _ (alloc_size _ _).symm
  have hG : Grown w W0 := by rw [hW0]; exact ((Grown.refl w).alloc _).alloc _
  go_enter Try.func54, Try.ntmps54
  go_upto_region 1 with fail
  rw [← hW0]
  clear hW0
  obtain ⟨ya0, ya1⟩ := ka.cells2
  obtain ⟨yb0, yb1⟩ := kb.cells2
  obtain ⟨W1, hW1⟩ : ∃ W1, W1 = (W0.alloc (.cells #[.int .i64 c1, .int .i64 c2] 3)).drew := ⟨_, rfl⟩
  have kq : Box (W0.alloc (.cells #[.int .i64 c1, .int .i64 c2] 3)) W0.heap.size 3 #[.int .i64 c1, .int .i64 c2] := Box.last _ _ _ rfl
  have HO := hide (impl_Or ((W0.alloc (.cells #[.int .i64 c1, .int .i64 c2] 3)).drew) W0.heap.size c1 c2 kq.cells2.1 kq.cells2.2)
  rw [← HV.out] at HO
  have HS : Hid (((W0.alloc (.cells #[.int .i64 c1, .int .i64 c2] 3)).drew).cell? ⟨w.heap.size, 0, none⟩ = some (.int .i64 x0) ∧ ((W0.alloc (.cells #[.int .i64 c1, .int .i64 c2] 3)).drew).cell? ⟨w.heap.size, 1, none⟩ = some (.int .i64 y0) ∧ ((W0.alloc (.cells #[.int .i64 c1, .int .i64 c2] 3)).drew).cell? ⟨w.heap.size + 1, 0, none⟩ = some (.int .i64 x1) ∧ ((W0.alloc (.cells #[.int .i64 c1, .int .i64 c2] 3)).drew).cell? ⟨w.heap.size + 1, 1, none⟩ = some (.int .i64 y1) ∧ Grown w ((W0.alloc (.cells #[.int .i64 c1, .int .i64 c2] 3)).drew)) :=
    ⟨(ka.alloc _).cells2.1, (ka.alloc _).cells2.2, (kb.alloc _).cells2.1, (kb.alloc _).cells2.2, (hG.alloc _).drew⟩
  go_region_held3 (fun w' => w'.cell? ⟨w.heap.size, 0, none⟩ = some (.int .i64 x0) ∧ w'.cell? ⟨w.heap.size, 1, none⟩ = some (.int .i64 y0) ∧ w'.cell? ⟨w.heap.size + 1, 0, none⟩ = some (.int .i64 x1) ∧ w'.cell? ⟨w.heap.size + 1, 1, none⟩ = some (.int .i64 y1) ∧ Grown w w')
    (first | (with_reducible exact HS.out) | exact ⟨ya0, ya1, yb0, yb1, hG.drew⟩ | exact HS.out)
    (first | (go_at_call 82; (first | (with_reducible refine Calls.mono (HC1.out _) ?_) | (with_reducible refine Calls.mono (HC2.out _) ?_)); rintro e w1 ⟨rfl, rfl⟩) | (go_at_call 81; refine Calls.mono HO.out ?_; rintro e w1 ⟨rfl, rfl⟩))
  have hG9 := HS.out.2.2.2.2
  go_wp2_with fail
  go_ret
  exact ⟨rfl, hG9⟩
end Go.Proofs.Ytdagomikjblgiaa
