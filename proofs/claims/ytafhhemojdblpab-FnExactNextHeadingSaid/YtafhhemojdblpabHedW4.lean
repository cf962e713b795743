/-
  The exact laws' walks: NextHeading.
-/
import Derived.Test.YtafhhemojdblpabHedI
import Derived.Test.YtafhhemojdblpabHedR3
namespace Go.Proofs.Ytafhhemojdblpab
open Go.RowKit
set_option linter.unusedVariables false
theorem FnExactNextHeading_walk (w : World) (h : Int) (fh : (Lit.int .i64 h).wf = true) (t : Int) (ft : (Lit.int .i64 t).wf = true) :
    Calls Try.prog 3 #[.int .i64 h, .int .i64 t] w fun e w' => e = .returned (.bool true) ∧ Below w.heap.size w w' := by
  have HS := hide (spec_NextHeading w h t fh ft)
  have HI := hide (impl_NextHeading w h t fh ft)
  clear fh ft
  generalize nxt h t = n at *
  go_enter Try.func3, Try.ntmps3
  go_wp2_with fail
  refine HS.out.mono ?_
  rintro e w1 ⟨rfl, rfl⟩
  go_wp2_with fail
  refine HI.out.mono ?_
  rintro e w1 ⟨rfl, rfl⟩
  go_wp2_with fail
  go_ret
  exact ⟨rfl, Below.refl _ _⟩
end Go.Proofs.Ytafhhemojdblpab
