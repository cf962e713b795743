/-
  No cell of these rows narrows 'for every input' (looked for: loops, veiled, ifaces, maps, wideKeys, modest, calm, conditions, laid).
  DERIVED. THE GIVEN ROWS OF THIS SEAT. 2 by the template 'for every input the law returns true; each argument reads behind the call as it read before'; 0 by the template 'total and deterministic' (their statements: YtffabmdcgcinmaaTotals.lean).
  GIVEN WITH THE SEED: the statements are not yours to turn. If you find one false, say at which input.
  Laid BY PROGRAM, IN A SANDBOX (cutbox-rows.mjs): the forced cells as the released guide's own fill.sh prints them over the translation 5beec839fc02dd6a… (all of the seat's roots in one cut). By AI agents, Wed Nov 11 2026. No macro, syntax, notation, axiom, sorry.
-/
import Derived.Test.YtffabmdcgcinmaaChecked
import GoSem.Claim
import GoSem.ClaimJoined
import GoSem.ClaimMapViews
import Derived.JoinedTies
import Derived.KernelRfl
namespace Go.Proofs.Ytffabmdcgcinmaa
/- THE CELL 'sum', in the pinned program and in every row, IS THE sha256 OF THE DUMP (.gsa) THAT YtffabmdcgcinmaaProg.lean LOADS. Nothing in Lean hashes anything: it is a label: what it is worth is what the hold of that sum in a sandbox is worth. -/
noncomputable def Try.pinned : Pinned := { name := "ytffabmdcgcinmaa", sum := "5beec839fc02dd6a1b76422bfd33e8fa4114320291c8691a2ab60f6f8aef43e0", checked := Try.checked }
namespace Rows
def none {H : Type} : Left H := { results := [], args := [] }

/-- 'laws.FnExactIsValidScene': WHATEVER THE INPUT: true; the input reads as it did. -/
def fnExactIsValidSceneSpec : ChangeSpec := { name := "fnExactIsValidScene", fn := fun _ => fun
  | [d] => { results := [.lit (.bool true)], args := [d] }
  | _ => none }
def fnExactIsValidSceneRow : OpenClaim := { program := "ytffabmdcgcinmaa", sum := "5beec839fc02dd6a1b76422bfd33e8fa4114320291c8691a2ab60f6f8aef43e0", func := "loop.example/g00811/laws.FnExactIsValidScene", spec := "fnExactIsValidScene", unfollowed := true, recurses := true, apart := false }
def FnExactIsValidSceneSaid : Prop := fnExactIsValidSceneRow.holds Try.pinned (OpenSpec.ofChange fnExactIsValidSceneSpec)

/-- ITS FALSE NEIGHBOUR: 'it returns false'. Refute it at one input. -/
def fnExactIsValidSceneWrong : ChangeSpec := { name := "fnExactIsValidScene", fn := fun _ => fun
  | [d] => { results := [.lit (.bool false)], args := [d] }
  | _ => none }
def FnExactIsValidSceneWrongFalsely : Prop := fnExactIsValidSceneRow.holds Try.pinned (OpenSpec.ofChange fnExactIsValidSceneWrong)

/-- 'laws.FnExactAddObstacle': WHATEVER THE INPUT: true; the input reads as it did. -/
def fnExactAddObstacleSpec : ChangeSpec := { name := "fnExactAddObstacle", fn := fun _ => fun
  | [d1, d2] => { results := [.lit (.bool true)], args := [d1, d2] }
  | _ => none }
def fnExactAddObstacleRow : OpenClaim := { program := "ytffabmdcgcinmaa", sum := "5beec839fc02dd6a1b76422bfd33e8fa4114320291c8691a2ab60f6f8aef43e0", func := "loop.example/g00811/laws.FnExactAddObstacle", spec := "fnExactAddObstacle", unfollowed := true, recurses := true, apart := false }
def FnExactAddObstacleSaid : Prop := fnExactAddObstacleRow.holds Try.pinned (OpenSpec.ofChange fnExactAddObstacleSpec)

/-- ITS FALSE NEIGHBOUR: 'it returns false'. Refute it at one input. -/
def fnExactAddObstacleWrong : ChangeSpec := { name := "fnExactAddObstacle", fn := fun _ => fun
  | [d1, d2] => { results := [.lit (.bool false)], args := [d1, d2] }
  | _ => none }
def FnExactAddObstacleWrongFalsely : Prop := fnExactAddObstacleRow.holds Try.pinned (OpenSpec.ofChange fnExactAddObstacleWrong)

/- THE SECOND FORM. 'bulk': how many values and letters a reading holds, each counted each time it is reached (what is shared counts as often as it is met; a slice's spare places count too). A statement '..UptoSaid' is the law's where the arguments, and the package variables that the reading takes, are together of bulk at most 1048576: NARROWER than '..Said'. Prove '..Said' where nothing that the law and all that it calls make is longer than what came in: it says more and counts as full. Else prove '..UptoSaid'. A law counts once. -/
mutual
def uptoBulk {H : Type} : DataW H → Nat
  | .lit (.string bytes) => bytes.length + 1
  | .lit _ => 1
  | .nil => 1
  | .ptr d => uptoBulk d + 1
  | .slice elems spare => uptoBulkAll elems + uptoBulkAll spare + 1
  | .agg parts => uptoBulkAll parts + 1
  | .iface _ d => uptoBulk d + 1
  | .map entries => uptoBulkEntries entries + 1
  | .held _ => 1
def uptoBulkAll {H : Type} : List (DataW H) → Nat
  | [] => 0
  | d :: r => uptoBulk d + uptoBulkAll r
def uptoBulkEntries {H : Type} : List (Lit × DataW H) → Nat
  | [] => 0
  | x :: r => uptoBulkEntry x + uptoBulkEntries r
def uptoBulkEntry {H : Type} : Lit × DataW H → Nat
  | (.string bytes, d) => bytes.length + uptoBulk d + 1
  | (_, d) => uptoBulk d + 1
 end
def uptoSmall : (H : Type) → List (DataW H) → Bool := fun _ ds => decide (uptoBulkAll ds ≤ 1048576)
def OpenSpec.upto (s : _root_.Go.ChangeSpec) : _root_.Go.OpenSpec := { _root_.Go.OpenSpec.ofChange s with cond := some uptoSmall }

/-- 'laws.FnExactIsValidScene', WHERE WHAT IT READS IS OF BULK AT MOST 1048576: true; the input reads as it did. -/
def fnExactIsValidSceneUptoRow : OpenClaim := { program := "ytffabmdcgcinmaa", sum := "5beec839fc02dd6a1b76422bfd33e8fa4114320291c8691a2ab60f6f8aef43e0", func := "loop.example/g00811/laws.FnExactIsValidScene", spec := "fnExactIsValidScene", unfollowed := true, recurses := true, apart := false, narrowed := true }
def FnExactIsValidSceneUptoSaid : Prop := fnExactIsValidSceneUptoRow.holds Try.pinned (OpenSpec.upto fnExactIsValidSceneSpec)

/-- 'laws.FnExactAddObstacle', WHERE WHAT IT READS IS OF BULK AT MOST 1048576: true; the input reads as it did. -/
def fnExactAddObstacleUptoRow : OpenClaim := { program := "ytffabmdcgcinmaa", sum := "5beec839fc02dd6a1b76422bfd33e8fa4114320291c8691a2ab60f6f8aef43e0", func := "loop.example/g00811/laws.FnExactAddObstacle", spec := "fnExactAddObstacle", unfollowed := true, recurses := true, apart := false, narrowed := true }
def FnExactAddObstacleUptoSaid : Prop := fnExactAddObstacleUptoRow.holds Try.pinned (OpenSpec.upto fnExactAddObstacleSpec)

end Rows
end Go.Proofs.Ytffabmdcgcinmaa
