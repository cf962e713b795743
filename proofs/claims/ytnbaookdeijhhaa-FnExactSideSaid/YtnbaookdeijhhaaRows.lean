/-
  No cell of these rows narrows 'for every input' (looked for: loops, veiled, ifaces, maps, wideKeys, modest, calm, conditions, laid).
  DERIVED. THE GIVEN ROWS OF THIS SEAT. 8 by the template 'for every input the law returns true; each argument reads behind the call as it read before'; 0 by the template 'total and deterministic' (their statements: YtnbaookdeijhhaaTotals.lean).
  GIVEN WITH THE SEED: the statements are not yours to turn. If you find one false, say at which input.
  Laid BY PROGRAM, IN A SANDBOX (cutbox-rows.mjs): the forced cells as the released guide's own fill.sh prints them over the translation 336b1f42fd9f8a74… (all of the seat's roots in one cut). By AI agents, Wed Nov 11 2026. No macro, syntax, notation, axiom, sorry.
-/
import Derived.Test.YtnbaookdeijhhaaChecked
import GoSem.Claim
import GoSem.ClaimJoined
import GoSem.ClaimMapViews
import Derived.JoinedTies
import Derived.KernelRfl
namespace Go.Proofs.Ytnbaookdeijhhaa
/- THE CELL 'sum', in the pinned program and in every row, IS THE sha256 OF THE DUMP (.gsa) THAT YtnbaookdeijhhaaProg.lean LOADS. Nothing in Lean hashes anything: it is a label: what it is worth is what the hold of that sum in a sandbox is worth. -/
noncomputable def Try.pinned : Pinned := { name := "ytnbaookdeijhhaa", sum := "336b1f42fd9f8a746cd6a9e11aba0db4bb1238c91870494ee14326256d6ad240", checked := Try.checked }
namespace Rows
def none {H : Type} : Left H := { results := [], args := [] }

/-- 'laws.FnExactIsValidVec': WHATEVER THE INPUT: true; the input reads as it did. -/
def fnExactIsValidVecSpec : ChangeSpec := { name := "fnExactIsValidVec", fn := fun _ => fun
  | [d] => { results := [.lit (.bool true)], args := [d] }
  | _ => none }
def fnExactIsValidVecRow : OpenClaim := { program := "ytnbaookdeijhhaa", sum := "336b1f42fd9f8a746cd6a9e11aba0db4bb1238c91870494ee14326256d6ad240", func := "loop.example/g00811/laws.FnExactIsValidVec", spec := "fnExactIsValidVec", apart := false }
def FnExactIsValidVecSaid : Prop := fnExactIsValidVecRow.holds Try.pinned (OpenSpec.ofChange fnExactIsValidVecSpec)

/-- ITS FALSE NEIGHBOUR: 'it returns false'. Refute it at one input. -/
def fnExactIsValidVecWrong : ChangeSpec := { name := "fnExactIsValidVec", fn := fun _ => fun
  | [d] => { results := [.lit (.bool false)], args := [d] }
  | _ => none }
def FnExactIsValidVecWrongFalsely : Prop := fnExactIsValidVecRow.holds Try.pinned (OpenSpec.ofChange fnExactIsValidVecWrong)

/-- 'laws.FnExactIsValidPoint': WHATEVER THE INPUT: true; the input reads as it did. -/
def fnExactIsValidPointSpec : ChangeSpec := { name := "fnExactIsValidPoint", fn := fun _ => fun
  | [d] => { results := [.lit (.bool true)], args := [d] }
  | _ => none }
def fnExactIsValidPointRow : OpenClaim := { program := "ytnbaookdeijhhaa", sum := "336b1f42fd9f8a746cd6a9e11aba0db4bb1238c91870494ee14326256d6ad240", func := "loop.example/g00811/laws.FnExactIsValidPoint", spec := "fnExactIsValidPoint", apart := false }
def FnExactIsValidPointSaid : Prop := fnExactIsValidPointRow.holds Try.pinned (OpenSpec.ofChange fnExactIsValidPointSpec)

/-- ITS FALSE NEIGHBOUR: 'it returns false'. Refute it at one input. -/
def fnExactIsValidPointWrong : ChangeSpec := { name := "fnExactIsValidPoint", fn := fun _ => fun
  | [d] => { results := [.lit (.bool false)], args := [d] }
  | _ => none }
def FnExactIsValidPointWrongFalsely : Prop := fnExactIsValidPointRow.holds Try.pinned (OpenSpec.ofChange fnExactIsValidPointWrong)

/-- 'laws.FnExactTurn': WHATEVER THE INPUT: true; the input reads as it did. -/
def fnExactTurnSpec : ChangeSpec := { name := "fnExactTurn", fn := fun _ => fun
  | [d1, d2, d3] => { results := [.lit (.bool true)], args := [d1, d2, d3] }
  | _ => none }
def fnExactTurnRow : OpenClaim := { program := "ytnbaookdeijhhaa", sum := "336b1f42fd9f8a746cd6a9e11aba0db4bb1238c91870494ee14326256d6ad240", func := "loop.example/g00811/laws.FnExactTurn", spec := "fnExactTurn", apart := false }
def FnExactTurnSaid : Prop := fnExactTurnRow.holds Try.pinned (OpenSpec.ofChange fnExactTurnSpec)

/-- ITS FALSE NEIGHBOUR: 'it returns false'. Refute it at one input. -/
def fnExactTurnWrong : ChangeSpec := { name := "fnExactTurn", fn := fun _ => fun
  | [d1, d2, d3] => { results := [.lit (.bool false)], args := [d1, d2, d3] }
  | _ => none }
def FnExactTurnWrongFalsely : Prop := fnExactTurnRow.holds Try.pinned (OpenSpec.ofChange fnExactTurnWrong)

/-- 'laws.FnExactPointOf': WHATEVER THE INPUT: true; the input reads as it did. -/
def fnExactPointOfSpec : ChangeSpec := { name := "fnExactPointOf", fn := fun _ => fun
  | [d] => { results := [.lit (.bool true)], args := [d] }
  | _ => none }
def fnExactPointOfRow : OpenClaim := { program := "ytnbaookdeijhhaa", sum := "336b1f42fd9f8a746cd6a9e11aba0db4bb1238c91870494ee14326256d6ad240", func := "loop.example/g00811/laws.FnExactPointOf", spec := "fnExactPointOf", apart := false }
def FnExactPointOfSaid : Prop := fnExactPointOfRow.holds Try.pinned (OpenSpec.ofChange fnExactPointOfSpec)

/-- ITS FALSE NEIGHBOUR: 'it returns false'. Refute it at one input. -/
def fnExactPointOfWrong : ChangeSpec := { name := "fnExactPointOf", fn := fun _ => fun
  | [d] => { results := [.lit (.bool false)], args := [d] }
  | _ => none }
def FnExactPointOfWrongFalsely : Prop := fnExactPointOfRow.holds Try.pinned (OpenSpec.ofChange fnExactPointOfWrong)

/-- 'laws.FnExactSamePoint': WHATEVER THE INPUT: true; the input reads as it did. -/
def fnExactSamePointSpec : ChangeSpec := { name := "fnExactSamePoint", fn := fun _ => fun
  | [d1, d2] => { results := [.lit (.bool true)], args := [d1, d2] }
  | _ => none }
def fnExactSamePointRow : OpenClaim := { program := "ytnbaookdeijhhaa", sum := "336b1f42fd9f8a746cd6a9e11aba0db4bb1238c91870494ee14326256d6ad240", func := "loop.example/g00811/laws.FnExactSamePoint", spec := "fnExactSamePoint", apart := false }
def FnExactSamePointSaid : Prop := fnExactSamePointRow.holds Try.pinned (OpenSpec.ofChange fnExactSamePointSpec)

/-- ITS FALSE NEIGHBOUR: 'it returns false'. Refute it at one input. -/
def fnExactSamePointWrong : ChangeSpec := { name := "fnExactSamePoint", fn := fun _ => fun
  | [d1, d2] => { results := [.lit (.bool false)], args := [d1, d2] }
  | _ => none }
def FnExactSamePointWrongFalsely : Prop := fnExactSamePointRow.holds Try.pinned (OpenSpec.ofChange fnExactSamePointWrong)

/-- 'laws.FnExactSide': WHATEVER THE INPUT: true; the input reads as it did. -/
def fnExactSideSpec : ChangeSpec := { name := "fnExactSide", fn := fun _ => fun
  | [d1, d2, d3] => { results := [.lit (.bool true)], args := [d1, d2, d3] }
  | _ => none }
def fnExactSideRow : OpenClaim := { program := "ytnbaookdeijhhaa", sum := "336b1f42fd9f8a746cd6a9e11aba0db4bb1238c91870494ee14326256d6ad240", func := "loop.example/g00811/laws.FnExactSide", spec := "fnExactSide", unfollowed := true, recurses := true, apart := false }
def FnExactSideSaid : Prop := fnExactSideRow.holds Try.pinned (OpenSpec.ofChange fnExactSideSpec)

/-- ITS FALSE NEIGHBOUR: 'it returns false'. Refute it at one input. -/
def fnExactSideWrong : ChangeSpec := { name := "fnExactSide", fn := fun _ => fun
  | [d1, d2, d3] => { results := [.lit (.bool false)], args := [d1, d2, d3] }
  | _ => none }
def FnExactSideWrongFalsely : Prop := fnExactSideRow.holds Try.pinned (OpenSpec.ofChange fnExactSideWrong)

/-- 'laws.FnExactMovePoint': WHATEVER THE INPUT: true; the input reads as it did. -/
def fnExactMovePointSpec : ChangeSpec := { name := "fnExactMovePoint", fn := fun _ => fun
  | [d1, d2] => { results := [.lit (.bool true)], args := [d1, d2] }
  | _ => none }
def fnExactMovePointRow : OpenClaim := { program := "ytnbaookdeijhhaa", sum := "336b1f42fd9f8a746cd6a9e11aba0db4bb1238c91870494ee14326256d6ad240", func := "loop.example/g00811/laws.FnExactMovePoint", spec := "fnExactMovePoint", unfollowed := true, recurses := true, apart := false }
def FnExactMovePointSaid : Prop := fnExactMovePointRow.holds Try.pinned (OpenSpec.ofChange fnExactMovePointSpec)

/-- ITS FALSE NEIGHBOUR: 'it returns false'. Refute it at one input. -/
def fnExactMovePointWrong : ChangeSpec := { name := "fnExactMovePoint", fn := fun _ => fun
  | [d1, d2] => { results := [.lit (.bool false)], args := [d1, d2] }
  | _ => none }
def FnExactMovePointWrongFalsely : Prop := fnExactMovePointRow.holds Try.pinned (OpenSpec.ofChange fnExactMovePointWrong)

/-- 'laws.FnExactSquareDistance': WHATEVER THE INPUT: true; the input reads as it did. -/
def fnExactSquareDistanceSpec : ChangeSpec := { name := "fnExactSquareDistance", fn := fun _ => fun
  | [d1, d2] => { results := [.lit (.bool true)], args := [d1, d2] }
  | _ => none }
def fnExactSquareDistanceRow : OpenClaim := { program := "ytnbaookdeijhhaa", sum := "336b1f42fd9f8a746cd6a9e11aba0db4bb1238c91870494ee14326256d6ad240", func := "loop.example/g00811/laws.FnExactSquareDistance", spec := "fnExactSquareDistance", unfollowed := true, recurses := true, apart := false }
def FnExactSquareDistanceSaid : Prop := fnExactSquareDistanceRow.holds Try.pinned (OpenSpec.ofChange fnExactSquareDistanceSpec)

/-- ITS FALSE NEIGHBOUR: 'it returns false'. Refute it at one input. -/
def fnExactSquareDistanceWrong : ChangeSpec := { name := "fnExactSquareDistance", fn := fun _ => fun
  | [d1, d2] => { results := [.lit (.bool false)], args := [d1, d2] }
  | _ => none }
def FnExactSquareDistanceWrongFalsely : Prop := fnExactSquareDistanceRow.holds Try.pinned (OpenSpec.ofChange fnExactSquareDistanceWrong)

/- THE SECOND FORM. 'bulk': how many values and letters a reading holds, each counted each time it is reached (what is shared counts as often as it is met; a slice's spare places count too). A statement '..UptoSaid' is the law's where the arguments, and the package variables that the reading takes, are together of bulk at most 1048576: NARROWER than '..Said'. Prove '..Said' where nothing that the law and all that it calls make is longer than what came in: it says more and counts as full. Else prove '..UptoSaid'. A law counts once. -/
mutual
def uptoBulk {H : Type} : DataW H → Nat
  | .lit (.string bytes) => bytes.length + 1
  | .lit _ => 1
  | .nil => 1
  | .ptr d => uptoBulk d + 1
  | .slice elems spare => uptoBulkAll elems + uptoBulkAll spare + 1
  | .agg parts => uptoBulkAll parts + 1
  | .iface _ d => uptoBulk d + 1
  | .map entries => uptoBulkEntries entries + 1
  | .held _ => 1
def uptoBulkAll {H : Type} : List (DataW H) → Nat
  | [] => 0
  | d :: r => uptoBulk d + uptoBulkAll r
def uptoBulkEntries {H : Type} : List (Lit × DataW H) → Nat
  | [] => 0
  | x :: r => uptoBulkEntry x + uptoBulkEntries r
def uptoBulkEntry {H : Type} : Lit × DataW H → Nat
  | (.string bytes, d) => bytes.length + uptoBulk d + 1
  | (_, d) => uptoBulk d + 1
 end
def uptoSmall : (H : Type) → List (DataW H) → Bool := fun _ ds => decide (uptoBulkAll ds ≤ 1048576)
def OpenSpec.upto (s : _root_.Go.ChangeSpec) : _root_.Go.OpenSpec := { _root_.Go.OpenSpec.ofChange s with cond := some uptoSmall }

/-- 'laws.FnExactIsValidVec', WHERE WHAT IT READS IS OF BULK AT MOST 1048576: true; the input reads as it did. -/
def fnExactIsValidVecUptoRow : OpenClaim := { program := "ytnbaookdeijhhaa", sum := "336b1f42fd9f8a746cd6a9e11aba0db4bb1238c91870494ee14326256d6ad240", func := "loop.example/g00811/laws.FnExactIsValidVec", spec := "fnExactIsValidVec", apart := false, narrowed := true }
def FnExactIsValidVecUptoSaid : Prop := fnExactIsValidVecUptoRow.holds Try.pinned (OpenSpec.upto fnExactIsValidVecSpec)

/-- 'laws.FnExactIsValidPoint', WHERE WHAT IT READS IS OF BULK AT MOST 1048576: true; the input reads as it did. -/
def fnExactIsValidPointUptoRow : OpenClaim := { program := "ytnbaookdeijhhaa", sum := "336b1f42fd9f8a746cd6a9e11aba0db4bb1238c91870494ee14326256d6ad240", func := "loop.example/g00811/laws.FnExactIsValidPoint", spec := "fnExactIsValidPoint", apart := false, narrowed := true }
def FnExactIsValidPointUptoSaid : Prop := fnExactIsValidPointUptoRow.holds Try.pinned (OpenSpec.upto fnExactIsValidPointSpec)

/-- 'laws.FnExactTurn', WHERE WHAT IT READS IS OF BULK AT MOST 1048576: true; the input reads as it did. -/
def fnExactTurnUptoRow : OpenClaim := { program := "ytnbaookdeijhhaa", sum := "336b1f42fd9f8a746cd6a9e11aba0db4bb1238c91870494ee14326256d6ad240", func := "loop.example/g00811/laws.FnExactTurn", spec := "fnExactTurn", apart := false, narrowed := true }
def FnExactTurnUptoSaid : Prop := fnExactTurnUptoRow.holds Try.pinned (OpenSpec.upto fnExactTurnSpec)

/-- 'laws.FnExactPointOf', WHERE WHAT IT READS IS OF BULK AT MOST 1048576: true; the input reads as it did. -/
def fnExactPointOfUptoRow : OpenClaim := { program := "ytnbaookdeijhhaa", sum := "336b1f42fd9f8a746cd6a9e11aba0db4bb1238c91870494ee14326256d6ad240", func := "loop.example/g00811/laws.FnExactPointOf", spec := "fnExactPointOf", apart := false, narrowed := true }
def FnExactPointOfUptoSaid : Prop := fnExactPointOfUptoRow.holds Try.pinned (OpenSpec.upto fnExactPointOfSpec)

/-- 'laws.FnExactSamePoint', WHERE WHAT IT READS IS OF BULK AT MOST 1048576: true; the input reads as it did. -/
def fnExactSamePointUptoRow : OpenClaim := { program := "ytnbaookdeijhhaa", sum := "336b1f42fd9f8a746cd6a9e11aba0db4bb1238c91870494ee14326256d6ad240", func := "loop.example/g00811/laws.FnExactSamePoint", spec := "fnExactSamePoint", apart := false, narrowed := true }
def FnExactSamePointUptoSaid : Prop := fnExactSamePointUptoRow.holds Try.pinned (OpenSpec.upto fnExactSamePointSpec)

/-- 'laws.FnExactSide', WHERE WHAT IT READS IS OF BULK AT MOST 1048576: true; the input reads as it did. -/
def fnExactSideUptoRow : OpenClaim := { program := "ytnbaookdeijhhaa", sum := "336b1f42fd9f8a746cd6a9e11aba0db4bb1238c91870494ee14326256d6ad240", func := "loop.example/g00811/laws.FnExactSide", spec := "fnExactSide", unfollowed := true, recurses := true, apart := false, narrowed := true }
def FnExactSideUptoSaid : Prop := fnExactSideUptoRow.holds Try.pinned (OpenSpec.upto fnExactSideSpec)

/-- 'laws.FnExactMovePoint', WHERE WHAT IT READS IS OF BULK AT MOST 1048576: true; the input reads as it did. -/
def fnExactMovePointUptoRow : OpenClaim := { program := "ytnbaookdeijhhaa", sum := "336b1f42fd9f8a746cd6a9e11aba0db4bb1238c91870494ee14326256d6ad240", func := "loop.example/g00811/laws.FnExactMovePoint", spec := "fnExactMovePoint", unfollowed := true, recurses := true, apart := false, narrowed := true }
def FnExactMovePointUptoSaid : Prop := fnExactMovePointUptoRow.holds Try.pinned (OpenSpec.upto fnExactMovePointSpec)

/-- 'laws.FnExactSquareDistance', WHERE WHAT IT READS IS OF BULK AT MOST 1048576: true; the input reads as it did. -/
def fnExactSquareDistanceUptoRow : OpenClaim := { program := "ytnbaookdeijhhaa", sum := "336b1f42fd9f8a746cd6a9e11aba0db4bb1238c91870494ee14326256d6ad240", func := "loop.example/g00811/laws.FnExactSquareDistance", spec := "fnExactSquareDistance", unfollowed := true, recurses := true, apart := false, narrowed := true }
def FnExactSquareDistanceUptoSaid : Prop := fnExactSquareDistanceUptoRow.holds Try.pinned (OpenSpec.upto fnExactSquareDistanceSpec)

end Rows
end Go.Proofs.Ytnbaookdeijhhaa
