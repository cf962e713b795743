/-
  NARROWER THAN 'FOR EVERY INPUT', by the rows' own cells (each row's printed sentence says how): FnExactRobotAt: laid · FnExactLimitsOf: laid · FnExactBlockedAreas: laid.
  DERIVED. THE GIVEN ROWS OF THIS SEAT. 3 by the template 'for every input the law returns true; each argument reads behind the call as it read before'; 0 by the template 'total and deterministic' (their statements: YtocllmaikngoaaaDoorTotals.lean).
  GIVEN WITH THE SEED: the statements are not yours to turn. If you find one false, say at which input.
  Laid BY PROGRAM, IN A SANDBOX (cutbox-rows.mjs): the forced cells as the released guide's own fill.sh prints them over the translation bfaa6b34638e2f2b… (all of the seat's roots in one cut). By AI agents, Wed Nov 11 2026. No macro, syntax, notation, axiom, sorry.
-/
import Derived.Test.YtocllmaikngoaaaDoorChecked
import GoSem.Claim
import GoSem.ClaimJoined
import GoSem.ClaimMapViews
import Derived.JoinedTies
import Derived.KernelRfl
namespace Go.Proofs.YtocllmaikngoaaaDoor
/- THE CELL 'sum', in the pinned program and in every row, IS THE sha256 OF THE DUMP (.gsa) THAT YtocllmaikngoaaaDoorProg.lean LOADS. Nothing in Lean hashes anything: it is a label: what it is worth is what the hold of that sum in a sandbox is worth. -/
noncomputable def Tryd.pinned : Pinned := { name := "ytocllmaikngoaaadoor", sum := "bfaa6b34638e2f2bc257a618de0fef37eb65ae407b62f69937369f099bb4593b", checked := Tryd.checked }
namespace Rows
def none {H : Type} : Left H := { results := [], args := [] }

/- WHAT THE LISTED PACKAGE-LEVEL VARIABLES READ AS WHEN THE CALL BEGINS. Each datum BY PROGRAM (the guide's laid-datum.mjs) off the statement by which the dump's own 'gosem.cut.vars' lays the variable. In a bare row this is a premise. The card (YtocllmaikngoaaaDoorCards.lean) ties it to the program's text. -/
def laid_loop_example_g00811_impl_quarterTurns {H : Type} : DataW H := .agg [.agg [.agg [.lit (.int .i64 1), .lit (.int .i64 0)], .agg [.lit (.int .i64 0), .lit (.int .i64 1)]], .agg [.agg [.lit (.int .i64 0), .lit (.int .i64 1)], .agg [.lit (.int .i64 (-1)), .lit (.int .i64 0)]], .agg [.agg [.lit (.int .i64 (-1)), .lit (.int .i64 0)], .agg [.lit (.int .i64 0), .lit (.int .i64 (-1))]], .agg [.agg [.lit (.int .i64 0), .lit (.int .i64 (-1))], .agg [.lit (.int .i64 1), .lit (.int .i64 0)]]]

/-- 'laws.FnExactRobotAt': WHATEVER THE INPUT: true; the input reads as it did. -/
def fnExactRobotAtSpec : ChangeSpec := { name := "fnExactRobotAt", vars := ["loop.example/g00811/impl.quarterTurns"], fn := fun _ => fun
  | [d1, d2, g1] => { results := [.lit (.bool true)], args := [d1, d2], vars := [g1] }
  | _ => none }
def fnExactRobotAtRow : OpenClaim := { program := "ytocllmaikngoaaadoor", sum := "bfaa6b34638e2f2bc257a618de0fef37eb65ae407b62f69937369f099bb4593b", func := "loop.example/g00811/laws.FnExactRobotAt", spec := "fnExactRobotAt", unfollowed := true, recurses := true, named := ["loop.example/g00811/impl.quarterTurns"], apart := false, laid := [("loop.example/g00811/impl.quarterTurns", laid_loop_example_g00811_impl_quarterTurns)] }
def FnExactRobotAtSaid : Prop := fnExactRobotAtRow.holds Tryd.pinned (OpenSpec.ofChange fnExactRobotAtSpec)

/-- ITS FALSE NEIGHBOUR: 'it returns false'. Refute it at one input. -/
def fnExactRobotAtWrong : ChangeSpec := { name := "fnExactRobotAt", vars := ["loop.example/g00811/impl.quarterTurns"], fn := fun _ => fun
  | [d1, d2, g1] => { results := [.lit (.bool false)], args := [d1, d2], vars := [g1] }
  | _ => none }
def FnExactRobotAtWrongFalsely : Prop := fnExactRobotAtRow.holds Tryd.pinned (OpenSpec.ofChange fnExactRobotAtWrong)

/-- 'laws.FnExactLimitsOf': WHATEVER THE INPUT: true; the input reads as it did. -/
def fnExactLimitsOfSpec : ChangeSpec := { name := "fnExactLimitsOf", vars := ["loop.example/g00811/impl.quarterTurns"], fn := fun _ => fun
  | [d1, d2, g1] => { results := [.lit (.bool true)], args := [d1, d2], vars := [g1] }
  | _ => none }
def fnExactLimitsOfRow : OpenClaim := { program := "ytocllmaikngoaaadoor", sum := "bfaa6b34638e2f2bc257a618de0fef37eb65ae407b62f69937369f099bb4593b", func := "loop.example/g00811/laws.FnExactLimitsOf", spec := "fnExactLimitsOf", unfollowed := true, recurses := true, named := ["loop.example/g00811/impl.quarterTurns"], apart := false, laid := [("loop.example/g00811/impl.quarterTurns", laid_loop_example_g00811_impl_quarterTurns)] }
def FnExactLimitsOfSaid : Prop := fnExactLimitsOfRow.holds Tryd.pinned (OpenSpec.ofChange fnExactLimitsOfSpec)

/-- ITS FALSE NEIGHBOUR: 'it returns false'. Refute it at one input. -/
def fnExactLimitsOfWrong : ChangeSpec := { name := "fnExactLimitsOf", vars := ["loop.example/g00811/impl.quarterTurns"], fn := fun _ => fun
  | [d1, d2, g1] => { results := [.lit (.bool false)], args := [d1, d2], vars := [g1] }
  | _ => none }
def FnExactLimitsOfWrongFalsely : Prop := fnExactLimitsOfRow.holds Tryd.pinned (OpenSpec.ofChange fnExactLimitsOfWrong)

/-- 'laws.FnExactBlockedAreas': WHATEVER THE INPUT: true; the input reads as it did. -/
def fnExactBlockedAreasSpec : ChangeSpec := { name := "fnExactBlockedAreas", vars := ["loop.example/g00811/impl.quarterTurns"], fn := fun _ => fun
  | [d1, d2, g1] => { results := [.lit (.bool true)], args := [d1, d2], vars := [g1] }
  | _ => none }
def fnExactBlockedAreasRow : OpenClaim := { program := "ytocllmaikngoaaadoor", sum := "bfaa6b34638e2f2bc257a618de0fef37eb65ae407b62f69937369f099bb4593b", func := "loop.example/g00811/laws.FnExactBlockedAreas", spec := "fnExactBlockedAreas", unfollowed := true, recurses := true, named := ["loop.example/g00811/impl.quarterTurns"], apart := false, laid := [("loop.example/g00811/impl.quarterTurns", laid_loop_example_g00811_impl_quarterTurns)] }
def FnExactBlockedAreasSaid : Prop := fnExactBlockedAreasRow.holds Tryd.pinned (OpenSpec.ofChange fnExactBlockedAreasSpec)

/-- ITS FALSE NEIGHBOUR: 'it returns false'. Refute it at one input. -/
def fnExactBlockedAreasWrong : ChangeSpec := { name := "fnExactBlockedAreas", vars := ["loop.example/g00811/impl.quarterTurns"], fn := fun _ => fun
  | [d1, d2, g1] => { results := [.lit (.bool false)], args := [d1, d2], vars := [g1] }
  | _ => none }
def FnExactBlockedAreasWrongFalsely : Prop := fnExactBlockedAreasRow.holds Tryd.pinned (OpenSpec.ofChange fnExactBlockedAreasWrong)

/- THE SECOND FORM. 'bulk': how many values and letters a reading holds, each counted each time it is reached (what is shared counts as often as it is met; a slice's spare places count too). A statement '..UptoSaid' is the law's where the arguments, and the package variables that the reading takes, are together of bulk at most 1048576: NARROWER than '..Said'. Prove '..Said' where nothing that the law and all that it calls make is longer than what came in: it says more and counts as full. Else prove '..UptoSaid'. A law counts once. -/
mutual
def uptoBulk {H : Type} : DataW H → Nat
  | .lit (.string bytes) => bytes.length + 1
  | .lit _ => 1
  | .nil => 1
  | .ptr d => uptoBulk d + 1
  | .slice elems spare => uptoBulkAll elems + uptoBulkAll spare + 1
  | .agg parts => uptoBulkAll parts + 1
  | .iface _ d => uptoBulk d + 1
  | .map entries => uptoBulkEntries entries + 1
  | .held _ => 1
def uptoBulkAll {H : Type} : List (DataW H) → Nat
  | [] => 0
  | d :: r => uptoBulk d + uptoBulkAll r
def uptoBulkEntries {H : Type} : List (Lit × DataW H) → Nat
  | [] => 0
  | x :: r => uptoBulkEntry x + uptoBulkEntries r
def uptoBulkEntry {H : Type} : Lit × DataW H → Nat
  | (.string bytes, d) => bytes.length + uptoBulk d + 1
  | (_, d) => uptoBulk d + 1
 end
def uptoSmall : (H : Type) → List (DataW H) → Bool := fun _ ds => decide (uptoBulkAll ds ≤ 1048576)
def OpenSpec.upto (s : _root_.Go.ChangeSpec) : _root_.Go.OpenSpec := { _root_.Go.OpenSpec.ofChange s with cond := some uptoSmall }

/-- 'laws.FnExactRobotAt', WHERE WHAT IT READS IS OF BULK AT MOST 1048576: true; the input reads as it did. -/
def fnExactRobotAtUptoRow : OpenClaim := { program := "ytocllmaikngoaaadoor", sum := "bfaa6b34638e2f2bc257a618de0fef37eb65ae407b62f69937369f099bb4593b", func := "loop.example/g00811/laws.FnExactRobotAt", spec := "fnExactRobotAt", unfollowed := true, recurses := true, named := ["loop.example/g00811/impl.quarterTurns"], apart := false, laid := [("loop.example/g00811/impl.quarterTurns", laid_loop_example_g00811_impl_quarterTurns)], narrowed := true }
def FnExactRobotAtUptoSaid : Prop := fnExactRobotAtUptoRow.holds Tryd.pinned (OpenSpec.upto fnExactRobotAtSpec)

/-- 'laws.FnExactLimitsOf', WHERE WHAT IT READS IS OF BULK AT MOST 1048576: true; the input reads as it did. -/
def fnExactLimitsOfUptoRow : OpenClaim := { program := "ytocllmaikngoaaadoor", sum := "bfaa6b34638e2f2bc257a618de0fef37eb65ae407b62f69937369f099bb4593b", func := "loop.example/g00811/laws.FnExactLimitsOf", spec := "fnExactLimitsOf", unfollowed := true, recurses := true, named := ["loop.example/g00811/impl.quarterTurns"], apart := false, laid := [("loop.example/g00811/impl.quarterTurns", laid_loop_example_g00811_impl_quarterTurns)], narrowed := true }
def FnExactLimitsOfUptoSaid : Prop := fnExactLimitsOfUptoRow.holds Tryd.pinned (OpenSpec.upto fnExactLimitsOfSpec)

/-- 'laws.FnExactBlockedAreas', WHERE WHAT IT READS IS OF BULK AT MOST 1048576: true; the input reads as it did. -/
def fnExactBlockedAreasUptoRow : OpenClaim := { program := "ytocllmaikngoaaadoor", sum := "bfaa6b34638e2f2bc257a618de0fef37eb65ae407b62f69937369f099bb4593b", func := "loop.example/g00811/laws.FnExactBlockedAreas", spec := "fnExactBlockedAreas", unfollowed := true, recurses := true, named := ["loop.example/g00811/impl.quarterTurns"], apart := false, laid := [("loop.example/g00811/impl.quarterTurns", laid_loop_example_g00811_impl_quarterTurns)], narrowed := true }
def FnExactBlockedAreasUptoSaid : Prop := fnExactBlockedAreasUptoRow.holds Tryd.pinned (OpenSpec.upto fnExactBlockedAreasSpec)

end Rows
end Go.Proofs.YtocllmaikngoaaaDoor
