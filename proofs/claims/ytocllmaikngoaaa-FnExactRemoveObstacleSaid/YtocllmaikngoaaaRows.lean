/-
  No cell of these rows narrows 'for every input' (looked for: loops, veiled, ifaces, maps, wideKeys, modest, calm, conditions, laid).
  DERIVED. THE GIVEN ROWS OF THIS SEAT. 3 by the template 'for every input the law returns true; each argument reads behind the call as it read before'; 0 by the template 'total and deterministic' (their statements: YtocllmaikngoaaaTotals.lean).
  GIVEN WITH THE SEED: the statements are not yours to turn. If you find one false, say at which input.
  Laid BY PROGRAM, IN A SANDBOX (cutbox-rows.mjs): the forced cells as the released guide's own fill.sh prints them over the translation aa1c015fab03bccd… (all of the seat's roots in one cut). By AI agents, Wed Nov 11 2026. No macro, syntax, notation, axiom, sorry.
-/
import Derived.Test.YtocllmaikngoaaaChecked
import GoSem.Claim
import GoSem.ClaimJoined
import GoSem.ClaimMapViews
import Derived.JoinedTies
import Derived.KernelRfl
namespace Go.Proofs.Ytocllmaikngoaaa
/- THE CELL 'sum', in the pinned program and in every row, IS THE sha256 OF THE DUMP (.gsa) THAT YtocllmaikngoaaaProg.lean LOADS. Nothing in Lean hashes anything: it is a label: what it is worth is what the hold of that sum in a sandbox is worth. -/
noncomputable def Try.pinned : Pinned := { name := "ytocllmaikngoaaa", sum := "aa1c015fab03bccd02c6447b7016990f2346d5a1fdbb3a30855ecafb557dec16", checked := Try.checked }
namespace Rows
def none {H : Type} : Left H := { results := [], args := [] }

/-- 'laws.FnExactRemoveObstacle': WHATEVER THE INPUT: true; the input reads as it did. -/
def fnExactRemoveObstacleSpec : ChangeSpec := { name := "fnExactRemoveObstacle", fn := fun _ => fun
  | [d1, d2] => { results := [.lit (.bool true)], args := [d1, d2] }
  | _ => none }
def fnExactRemoveObstacleRow : OpenClaim := { program := "ytocllmaikngoaaa", sum := "aa1c015fab03bccd02c6447b7016990f2346d5a1fdbb3a30855ecafb557dec16", func := "loop.example/g00811/laws.FnExactRemoveObstacle", spec := "fnExactRemoveObstacle", unfollowed := true, recurses := true, apart := false }
def FnExactRemoveObstacleSaid : Prop := fnExactRemoveObstacleRow.holds Try.pinned (OpenSpec.ofChange fnExactRemoveObstacleSpec)

/-- ITS FALSE NEIGHBOUR: 'it returns false'. Refute it at one input. -/
def fnExactRemoveObstacleWrong : ChangeSpec := { name := "fnExactRemoveObstacle", fn := fun _ => fun
  | [d1, d2] => { results := [.lit (.bool false)], args := [d1, d2] }
  | _ => none }
def FnExactRemoveObstacleWrongFalsely : Prop := fnExactRemoveObstacleRow.holds Try.pinned (OpenSpec.ofChange fnExactRemoveObstacleWrong)

/-- 'laws.FnExactInBox': WHATEVER THE INPUT: true; the input reads as it did. -/
def fnExactInBoxSpec : ChangeSpec := { name := "fnExactInBox", fn := fun _ => fun
  | [d1, d2] => { results := [.lit (.bool true)], args := [d1, d2] }
  | _ => none }
def fnExactInBoxRow : OpenClaim := { program := "ytocllmaikngoaaa", sum := "aa1c015fab03bccd02c6447b7016990f2346d5a1fdbb3a30855ecafb557dec16", func := "loop.example/g00811/laws.FnExactInBox", spec := "fnExactInBox", apart := false }
def FnExactInBoxSaid : Prop := fnExactInBoxRow.holds Try.pinned (OpenSpec.ofChange fnExactInBoxSpec)

/-- ITS FALSE NEIGHBOUR: 'it returns false'. Refute it at one input. -/
def fnExactInBoxWrong : ChangeSpec := { name := "fnExactInBox", fn := fun _ => fun
  | [d1, d2] => { results := [.lit (.bool false)], args := [d1, d2] }
  | _ => none }
def FnExactInBoxWrongFalsely : Prop := fnExactInBoxRow.holds Try.pinned (OpenSpec.ofChange fnExactInBoxWrong)

/-- 'laws.FnExactShiftObstacle': WHATEVER THE INPUT: true; the input reads as it did. -/
def fnExactShiftObstacleSpec : ChangeSpec := { name := "fnExactShiftObstacle", fn := fun _ => fun
  | [d1, d2, d3] => { results := [.lit (.bool true)], args := [d1, d2, d3] }
  | _ => none }
def fnExactShiftObstacleRow : OpenClaim := { program := "ytocllmaikngoaaa", sum := "aa1c015fab03bccd02c6447b7016990f2346d5a1fdbb3a30855ecafb557dec16", func := "loop.example/g00811/laws.FnExactShiftObstacle", spec := "fnExactShiftObstacle", unfollowed := true, recurses := true, apart := false }
def FnExactShiftObstacleSaid : Prop := fnExactShiftObstacleRow.holds Try.pinned (OpenSpec.ofChange fnExactShiftObstacleSpec)

/-- ITS FALSE NEIGHBOUR: 'it returns false'. Refute it at one input. -/
def fnExactShiftObstacleWrong : ChangeSpec := { name := "fnExactShiftObstacle", fn := fun _ => fun
  | [d1, d2, d3] => { results := [.lit (.bool false)], args := [d1, d2, d3] }
  | _ => none }
def FnExactShiftObstacleWrongFalsely : Prop := fnExactShiftObstacleRow.holds Try.pinned (OpenSpec.ofChange fnExactShiftObstacleWrong)

/- THE SECOND FORM. 'bulk': how many values and letters a reading holds, each counted each time it is reached (what is shared counts as often as it is met; a slice's spare places count too). A statement '..UptoSaid' is the law's where the arguments, and the package variables that the reading takes, are together of bulk at most 1048576: NARROWER than '..Said'. Prove '..Said' where nothing that the law and all that it calls make is longer than what came in: it says more and counts as full. Else prove '..UptoSaid'. A law counts once. -/
mutual
def uptoBulk {H : Type} : DataW H → Nat
  | .lit (.string bytes) => bytes.length + 1
  | .lit _ => 1
  | .nil => 1
  | .ptr d => uptoBulk d + 1
  | .slice elems spare => uptoBulkAll elems + uptoBulkAll spare + 1
  | .agg parts => uptoBulkAll parts + 1
  | .iface _ d => uptoBulk d + 1
  | .map entries => uptoBulkEntries entries + 1
  | .held _ => 1
def uptoBulkAll {H : Type} : List (DataW H) → Nat
  | [] => 0
  | d :: r => uptoBulk d + uptoBulkAll r
def uptoBulkEntries {H : Type} : List (Lit × DataW H) → Nat
  | [] => 0
  | x :: r => uptoBulkEntry x + uptoBulkEntries r
def uptoBulkEntry {H : Type} : Lit × DataW H → Nat
  | (.string bytes, d) => bytes.length + uptoBulk d + 1
  | (_, d) => uptoBulk d + 1
 end
def uptoSmall : (H : Type) → List (DataW H) → Bool := fun _ ds => decide (uptoBulkAll ds ≤ 1048576)
def OpenSpec.upto (s : _root_.Go.ChangeSpec) : _root_.Go.OpenSpec := { _root_.Go.OpenSpec.ofChange s with cond := some uptoSmall }

/-- 'laws.FnExactRemoveObstacle', WHERE WHAT IT READS IS OF BULK AT MOST 1048576: true; the input reads as it did. -/
def fnExactRemoveObstacleUptoRow : OpenClaim := { program := "ytocllmaikngoaaa", sum := "aa1c015fab03bccd02c6447b7016990f2346d5a1fdbb3a30855ecafb557dec16", func := "loop.example/g00811/laws.FnExactRemoveObstacle", spec := "fnExactRemoveObstacle", unfollowed := true, recurses := true, apart := false, narrowed := true }
def FnExactRemoveObstacleUptoSaid : Prop := fnExactRemoveObstacleUptoRow.holds Try.pinned (OpenSpec.upto fnExactRemoveObstacleSpec)

/-- 'laws.FnExactInBox', WHERE WHAT IT READS IS OF BULK AT MOST 1048576: true; the input reads as it did. -/
def fnExactInBoxUptoRow : OpenClaim := { program := "ytocllmaikngoaaa", sum := "aa1c015fab03bccd02c6447b7016990f2346d5a1fdbb3a30855ecafb557dec16", func := "loop.example/g00811/laws.FnExactInBox", spec := "fnExactInBox", apart := false, narrowed := true }
def FnExactInBoxUptoSaid : Prop := fnExactInBoxUptoRow.holds Try.pinned (OpenSpec.upto fnExactInBoxSpec)

/-- 'laws.FnExactShiftObstacle', WHERE WHAT IT READS IS OF BULK AT MOST 1048576: true; the input reads as it did. -/
def fnExactShiftObstacleUptoRow : OpenClaim := { program := "ytocllmaikngoaaa", sum := "aa1c015fab03bccd02c6447b7016990f2346d5a1fdbb3a30855ecafb557dec16", func := "loop.example/g00811/laws.FnExactShiftObstacle", spec := "fnExactShiftObstacle", unfollowed := true, recurses := true, apart := false, narrowed := true }
def FnExactShiftObstacleUptoSaid : Prop := fnExactShiftObstacleUptoRow.holds Try.pinned (OpenSpec.upto fnExactShiftObstacleSpec)

end Rows
end Go.Proofs.Ytocllmaikngoaaa
