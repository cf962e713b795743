/-
  NARROWER THAN 'FOR EVERY INPUT', by the rows' own cells (each row's printed sentence says how): FnExactRobotCorners: laid · FnFree: laid · FnFreeMove: laid.
  DERIVED. THE GIVEN ROWS OF THIS SEAT. 3 by the template 'for every input the law returns true; each argument reads behind the call as it read before'; 0 by the template 'total and deterministic' (their statements: YtocllmaikngoaaaGreatDoorTotals.lean).
  GIVEN WITH THE SEED: the statements are not yours to turn. If you find one false, say at which input.
  Laid BY PROGRAM, IN A SANDBOX (cutbox-rows.mjs): the forced cells as the released guide's own fill.sh prints them over the translation 5ed8398492b007f3… (all of the seat's roots in one cut). By AI agents, Wed Nov 11 2026. No macro, syntax, notation, axiom, sorry.
-/
import Derived.Test.YtocllmaikngoaaaGreatDoorChecked
import GoSem.Claim
import GoSem.ClaimJoined
import GoSem.ClaimMapViews
import Derived.JoinedTies
import Derived.KernelRfl
namespace Go.Proofs.YtocllmaikngoaaaGreatDoor
/- THE CELL 'sum', in the pinned program and in every row, IS THE sha256 OF THE DUMP (.gsa) THAT YtocllmaikngoaaaGreatDoorProg.lean LOADS. Nothing in Lean hashes anything: it is a label: what it is worth is what the hold of that sum in a sandbox is worth. -/
noncomputable def Tryz.pinned : Pinned := { name := "ytocllmaikngoaaagreatdoor", sum := "5ed8398492b007f3c6b7cfd107809aeadeb5079783b836a45652be118d660234", checked := Tryz.checked }
namespace Rows
def none {H : Type} : Left H := { results := [], args := [] }

/- WHAT THE LISTED PACKAGE-LEVEL VARIABLES READ AS WHEN THE CALL BEGINS. Each datum BY PROGRAM (the guide's laid-datum.mjs) off the statement by which the dump's own 'gosem.cut.vars' lays the variable. In a bare row this is a premise. The card (YtocllmaikngoaaaGreatDoorCards.lean) ties it to the program's text. -/
def laid_loop_example_g00811_impl_quarterTurns {H : Type} : DataW H := .agg [.agg [.agg [.lit (.int .i64 1), .lit (.int .i64 0)], .agg [.lit (.int .i64 0), .lit (.int .i64 1)]], .agg [.agg [.lit (.int .i64 0), .lit (.int .i64 1)], .agg [.lit (.int .i64 (-1)), .lit (.int .i64 0)]], .agg [.agg [.lit (.int .i64 (-1)), .lit (.int .i64 0)], .agg [.lit (.int .i64 0), .lit (.int .i64 (-1))]], .agg [.agg [.lit (.int .i64 0), .lit (.int .i64 (-1))], .agg [.lit (.int .i64 1), .lit (.int .i64 0)]]]

/-- 'laws.FnExactRobotCorners': WHATEVER THE INPUT: true; the input reads as it did. -/
def fnExactRobotCornersSpec : ChangeSpec := { name := "fnExactRobotCorners", vars := ["loop.example/g00811/impl.quarterTurns"], fn := fun _ => fun
  | [d1, d2, d3, g1] => { results := [.lit (.bool true)], args := [d1, d2, d3], vars := [g1] }
  | _ => none }
def fnExactRobotCornersRow : OpenClaim := { program := "ytocllmaikngoaaagreatdoor", sum := "5ed8398492b007f3c6b7cfd107809aeadeb5079783b836a45652be118d660234", func := "loop.example/g00811/laws.FnExactRobotCorners", spec := "fnExactRobotCorners", unfollowed := true, recurses := true, named := ["loop.example/g00811/impl.quarterTurns"], apart := false, laid := [("loop.example/g00811/impl.quarterTurns", laid_loop_example_g00811_impl_quarterTurns)] }
def FnExactRobotCornersSaid : Prop := fnExactRobotCornersRow.holds Tryz.pinned (OpenSpec.ofChange fnExactRobotCornersSpec)

/-- ITS FALSE NEIGHBOUR: 'it returns false'. Refute it at one input. -/
def fnExactRobotCornersWrong : ChangeSpec := { name := "fnExactRobotCorners", vars := ["loop.example/g00811/impl.quarterTurns"], fn := fun _ => fun
  | [d1, d2, d3, g1] => { results := [.lit (.bool false)], args := [d1, d2, d3], vars := [g1] }
  | _ => none }
def FnExactRobotCornersWrongFalsely : Prop := fnExactRobotCornersRow.holds Tryz.pinned (OpenSpec.ofChange fnExactRobotCornersWrong)

/-- 'laws.FnFree': WHATEVER THE INPUT: true; the input reads as it did. -/
def fnFreeSpec : ChangeSpec := { name := "fnFree", vars := ["loop.example/g00811/impl.quarterTurns"], fn := fun _ => fun
  | [d, g1] => { results := [.lit (.bool true)], args := [d], vars := [g1] }
  | _ => none }
def fnFreeRow : OpenClaim := { program := "ytocllmaikngoaaagreatdoor", sum := "5ed8398492b007f3c6b7cfd107809aeadeb5079783b836a45652be118d660234", func := "loop.example/g00811/laws.FnFree", spec := "fnFree", unfollowed := true, recurses := true, named := ["loop.example/g00811/impl.quarterTurns"], apart := false, laid := [("loop.example/g00811/impl.quarterTurns", laid_loop_example_g00811_impl_quarterTurns)] }
def FnFreeSaid : Prop := fnFreeRow.holds Tryz.pinned (OpenSpec.ofChange fnFreeSpec)

/-- ITS FALSE NEIGHBOUR: 'it returns false'. Refute it at one input. -/
def fnFreeWrong : ChangeSpec := { name := "fnFree", vars := ["loop.example/g00811/impl.quarterTurns"], fn := fun _ => fun
  | [d, g1] => { results := [.lit (.bool false)], args := [d], vars := [g1] }
  | _ => none }
def FnFreeWrongFalsely : Prop := fnFreeRow.holds Tryz.pinned (OpenSpec.ofChange fnFreeWrong)

/-- 'laws.FnFreeMove': WHATEVER THE INPUT: true; the input reads as it did. -/
def fnFreeMoveSpec : ChangeSpec := { name := "fnFreeMove", vars := ["loop.example/g00811/impl.quarterTurns"], fn := fun _ => fun
  | [d, g1] => { results := [.lit (.bool true)], args := [d], vars := [g1] }
  | _ => none }
def fnFreeMoveRow : OpenClaim := { program := "ytocllmaikngoaaagreatdoor", sum := "5ed8398492b007f3c6b7cfd107809aeadeb5079783b836a45652be118d660234", func := "loop.example/g00811/laws.FnFreeMove", spec := "fnFreeMove", unfollowed := true, recurses := true, named := ["loop.example/g00811/impl.quarterTurns"], apart := false, laid := [("loop.example/g00811/impl.quarterTurns", laid_loop_example_g00811_impl_quarterTurns)] }
def FnFreeMoveSaid : Prop := fnFreeMoveRow.holds Tryz.pinned (OpenSpec.ofChange fnFreeMoveSpec)

/-- ITS FALSE NEIGHBOUR: 'it returns false'. Refute it at one input. -/
def fnFreeMoveWrong : ChangeSpec := { name := "fnFreeMove", vars := ["loop.example/g00811/impl.quarterTurns"], fn := fun _ => fun
  | [d, g1] => { results := [.lit (.bool false)], args := [d], vars := [g1] }
  | _ => none }
def FnFreeMoveWrongFalsely : Prop := fnFreeMoveRow.holds Tryz.pinned (OpenSpec.ofChange fnFreeMoveWrong)

/- THE SECOND FORM. 'bulk': how many values and letters a reading holds, each counted each time it is reached (what is shared counts as often as it is met; a slice's spare places count too). A statement '..UptoSaid' is the law's where the arguments, and the package variables that the reading takes, are together of bulk at most 1048576: NARROWER than '..Said'. Prove '..Said' where nothing that the law and all that it calls make is longer than what came in: it says more and counts as full. Else prove '..UptoSaid'. A law counts once. -/
mutual
def uptoBulk {H : Type} : DataW H → Nat
  | .lit (.string bytes) => bytes.length + 1
  | .lit _ => 1
  | .nil => 1
  | .ptr d => uptoBulk d + 1
  | .slice elems spare => uptoBulkAll elems + uptoBulkAll spare + 1
  | .agg parts => uptoBulkAll parts + 1
  | .iface _ d => uptoBulk d + 1
  | .map entries => uptoBulkEntries entries + 1
  | .held _ => 1
def uptoBulkAll {H : Type} : List (DataW H) → Nat
  | [] => 0
  | d :: r => uptoBulk d + uptoBulkAll r
def uptoBulkEntries {H : Type} : List (Lit × DataW H) → Nat
  | [] => 0
  | x :: r => uptoBulkEntry x + uptoBulkEntries r
def uptoBulkEntry {H : Type} : Lit × DataW H → Nat
  | (.string bytes, d) => bytes.length + uptoBulk d + 1
  | (_, d) => uptoBulk d + 1
 end
def uptoSmall : (H : Type) → List (DataW H) → Bool := fun _ ds => decide (uptoBulkAll ds ≤ 1048576)
def OpenSpec.upto (s : _root_.Go.ChangeSpec) : _root_.Go.OpenSpec := { _root_.Go.OpenSpec.ofChange s with cond := some uptoSmall }

/-- 'laws.FnExactRobotCorners', WHERE WHAT IT READS IS OF BULK AT MOST 1048576: true; the input reads as it did. -/
def fnExactRobotCornersUptoRow : OpenClaim := { program := "ytocllmaikngoaaagreatdoor", sum := "5ed8398492b007f3c6b7cfd107809aeadeb5079783b836a45652be118d660234", func := "loop.example/g00811/laws.FnExactRobotCorners", spec := "fnExactRobotCorners", unfollowed := true, recurses := true, named := ["loop.example/g00811/impl.quarterTurns"], apart := false, laid := [("loop.example/g00811/impl.quarterTurns", laid_loop_example_g00811_impl_quarterTurns)], narrowed := true }
def FnExactRobotCornersUptoSaid : Prop := fnExactRobotCornersUptoRow.holds Tryz.pinned (OpenSpec.upto fnExactRobotCornersSpec)

/-- 'laws.FnFree', WHERE WHAT IT READS IS OF BULK AT MOST 1048576: true; the input reads as it did. -/
def fnFreeUptoRow : OpenClaim := { program := "ytocllmaikngoaaagreatdoor", sum := "5ed8398492b007f3c6b7cfd107809aeadeb5079783b836a45652be118d660234", func := "loop.example/g00811/laws.FnFree", spec := "fnFree", unfollowed := true, recurses := true, named := ["loop.example/g00811/impl.quarterTurns"], apart := false, laid := [("loop.example/g00811/impl.quarterTurns", laid_loop_example_g00811_impl_quarterTurns)], narrowed := true }
def FnFreeUptoSaid : Prop := fnFreeUptoRow.holds Tryz.pinned (OpenSpec.upto fnFreeSpec)

/-- 'laws.FnFreeMove', WHERE WHAT IT READS IS OF BULK AT MOST 1048576: true; the input reads as it did. -/
def fnFreeMoveUptoRow : OpenClaim := { program := "ytocllmaikngoaaagreatdoor", sum := "5ed8398492b007f3c6b7cfd107809aeadeb5079783b836a45652be118d660234", func := "loop.example/g00811/laws.FnFreeMove", spec := "fnFreeMove", unfollowed := true, recurses := true, named := ["loop.example/g00811/impl.quarterTurns"], apart := false, laid := [("loop.example/g00811/impl.quarterTurns", laid_loop_example_g00811_impl_quarterTurns)], narrowed := true }
def FnFreeMoveUptoSaid : Prop := fnFreeMoveUptoRow.holds Tryz.pinned (OpenSpec.upto fnFreeMoveSpec)

end Rows
end Go.Proofs.YtocllmaikngoaaaGreatDoor
