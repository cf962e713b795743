/-
  No cell of these rows narrows 'for every input' (looked for: loops, veiled, ifaces, maps, wideKeys, modest, calm, conditions, laid).
  DERIVED. THE GIVEN ROWS OF THIS SEAT. 4 by the template 'for every input the law returns true; each argument reads behind the call as it read before'; 0 by the template 'total and deterministic' (their statements: YtdcceppednngjaaTotals.lean).
  GIVEN WITH THE SEED: the statements are not yours to turn. If you find one false, say at which input.
  Laid BY PROGRAM, IN A SANDBOX (cutbox-rows.mjs): the forced cells as the released guide's own fill.sh prints them over the translation a00eeaba45ef52d0… (all of the seat's roots in one cut). By AI agents, Wed Nov 11 2026. No macro, syntax, notation, axiom, sorry.
-/
import Derived.Test.YtdcceppednngjaaChecked
import GoSem.Claim
import GoSem.ClaimJoined
import GoSem.ClaimMapViews
import Derived.JoinedTies
import Derived.KernelRfl
namespace Go.Proofs.Ytdcceppednngjaa
/- THE CELL 'sum', in the pinned program and in every row, IS THE sha256 OF THE DUMP (.gsa) THAT YtdcceppednngjaaProg.lean LOADS. Nothing in Lean hashes anything: it is a label: what it is worth is what the hold of that sum in a sandbox is worth. -/
noncomputable def Try.pinned : Pinned := { name := "ytdcceppednngjaa", sum := "a00eeaba45ef52d0d0d92a4b26e39d320c0f99ac88359ea78c4803e7a833d877", checked := Try.checked }
namespace Rows
def none {H : Type} : Left H := { results := [], args := [] }

/-- 'laws.FnExactIsValidEdge': WHATEVER THE INPUT: true; the input reads as it did. -/
def fnExactIsValidEdgeSpec : ChangeSpec := { name := "fnExactIsValidEdge", fn := fun _ => fun
  | [d] => { results := [.lit (.bool true)], args := [d] }
  | _ => none }
def fnExactIsValidEdgeRow : OpenClaim := { program := "ytdcceppednngjaa", sum := "a00eeaba45ef52d0d0d92a4b26e39d320c0f99ac88359ea78c4803e7a833d877", func := "loop.example/g00811/laws.FnExactIsValidEdge", spec := "fnExactIsValidEdge", apart := false }
def FnExactIsValidEdgeSaid : Prop := fnExactIsValidEdgeRow.holds Try.pinned (OpenSpec.ofChange fnExactIsValidEdgeSpec)

/-- ITS FALSE NEIGHBOUR: 'it returns false'. Refute it at one input. -/
def fnExactIsValidEdgeWrong : ChangeSpec := { name := "fnExactIsValidEdge", fn := fun _ => fun
  | [d] => { results := [.lit (.bool false)], args := [d] }
  | _ => none }
def FnExactIsValidEdgeWrongFalsely : Prop := fnExactIsValidEdgeRow.holds Try.pinned (OpenSpec.ofChange fnExactIsValidEdgeWrong)

/-- 'laws.FnExactEdgesOf': WHATEVER THE INPUT: true; the input reads as it did. -/
def fnExactEdgesOfSpec : ChangeSpec := { name := "fnExactEdgesOf", fn := fun _ => fun
  | [d] => { results := [.lit (.bool true)], args := [d] }
  | _ => none }
def fnExactEdgesOfRow : OpenClaim := { program := "ytdcceppednngjaa", sum := "a00eeaba45ef52d0d0d92a4b26e39d320c0f99ac88359ea78c4803e7a833d877", func := "loop.example/g00811/laws.FnExactEdgesOf", spec := "fnExactEdgesOf", unfollowed := true, recurses := true, apart := false }
def FnExactEdgesOfSaid : Prop := fnExactEdgesOfRow.holds Try.pinned (OpenSpec.ofChange fnExactEdgesOfSpec)

/-- ITS FALSE NEIGHBOUR: 'it returns false'. Refute it at one input. -/
def fnExactEdgesOfWrong : ChangeSpec := { name := "fnExactEdgesOf", fn := fun _ => fun
  | [d] => { results := [.lit (.bool false)], args := [d] }
  | _ => none }
def FnExactEdgesOfWrongFalsely : Prop := fnExactEdgesOfRow.holds Try.pinned (OpenSpec.ofChange fnExactEdgesOfWrong)

/-- 'laws.FnExactHeightAt': WHATEVER THE INPUT: true; the input reads as it did. -/
def fnExactHeightAtSpec : ChangeSpec := { name := "fnExactHeightAt", fn := fun _ => fun
  | [d1, d2] => { results := [.lit (.bool true)], args := [d1, d2] }
  | _ => none }
def fnExactHeightAtRow : OpenClaim := { program := "ytdcceppednngjaa", sum := "a00eeaba45ef52d0d0d92a4b26e39d320c0f99ac88359ea78c4803e7a833d877", func := "loop.example/g00811/laws.FnExactHeightAt", spec := "fnExactHeightAt", apart := false }
def FnExactHeightAtSaid : Prop := fnExactHeightAtRow.holds Try.pinned (OpenSpec.ofChange fnExactHeightAtSpec)

/-- ITS FALSE NEIGHBOUR: 'it returns false'. Refute it at one input. -/
def fnExactHeightAtWrong : ChangeSpec := { name := "fnExactHeightAt", fn := fun _ => fun
  | [d1, d2] => { results := [.lit (.bool false)], args := [d1, d2] }
  | _ => none }
def FnExactHeightAtWrongFalsely : Prop := fnExactHeightAtRow.holds Try.pinned (OpenSpec.ofChange fnExactHeightAtWrong)

/-- 'laws.FnExactSpansX': WHATEVER THE INPUT: true; the input reads as it did. -/
def fnExactSpansXSpec : ChangeSpec := { name := "fnExactSpansX", fn := fun _ => fun
  | [d1, d2, d3] => { results := [.lit (.bool true)], args := [d1, d2, d3] }
  | _ => none }
def fnExactSpansXRow : OpenClaim := { program := "ytdcceppednngjaa", sum := "a00eeaba45ef52d0d0d92a4b26e39d320c0f99ac88359ea78c4803e7a833d877", func := "loop.example/g00811/laws.FnExactSpansX", spec := "fnExactSpansX", apart := false }
def FnExactSpansXSaid : Prop := fnExactSpansXRow.holds Try.pinned (OpenSpec.ofChange fnExactSpansXSpec)

/-- ITS FALSE NEIGHBOUR: 'it returns false'. Refute it at one input. -/
def fnExactSpansXWrong : ChangeSpec := { name := "fnExactSpansX", fn := fun _ => fun
  | [d1, d2, d3] => { results := [.lit (.bool false)], args := [d1, d2, d3] }
  | _ => none }
def FnExactSpansXWrongFalsely : Prop := fnExactSpansXRow.holds Try.pinned (OpenSpec.ofChange fnExactSpansXWrong)

/- THE SECOND FORM. 'bulk': how many values and letters a reading holds, each counted each time it is reached (what is shared counts as often as it is met; a slice's spare places count too). A statement '..UptoSaid' is the law's where the arguments, and the package variables that the reading takes, are together of bulk at most 1048576: NARROWER than '..Said'. Prove '..Said' where nothing that the law and all that it calls make is longer than what came in: it says more and counts as full. Else prove '..UptoSaid'. A law counts once. -/
mutual
def uptoBulk {H : Type} : DataW H → Nat
  | .lit (.string bytes) => bytes.length + 1
  | .lit _ => 1
  | .nil => 1
  | .ptr d => uptoBulk d + 1
  | .slice elems spare => uptoBulkAll elems + uptoBulkAll spare + 1
  | .agg parts => uptoBulkAll parts + 1
  | .iface _ d => uptoBulk d + 1
  | .map entries => uptoBulkEntries entries + 1
  | .held _ => 1
def uptoBulkAll {H : Type} : List (DataW H) → Nat
  | [] => 0
  | d :: r => uptoBulk d + uptoBulkAll r
def uptoBulkEntries {H : Type} : List (Lit × DataW H) → Nat
  | [] => 0
  | x :: r => uptoBulkEntry x + uptoBulkEntries r
def uptoBulkEntry {H : Type} : Lit × DataW H → Nat
  | (.string bytes, d) => bytes.length + uptoBulk d + 1
  | (_, d) => uptoBulk d + 1
 end
def uptoSmall : (H : Type) → List (DataW H) → Bool := fun _ ds => decide (uptoBulkAll ds ≤ 1048576)
def OpenSpec.upto (s : _root_.Go.ChangeSpec) : _root_.Go.OpenSpec := { _root_.Go.OpenSpec.ofChange s with cond := some uptoSmall }

/-- 'laws.FnExactIsValidEdge', WHERE WHAT IT READS IS OF BULK AT MOST 1048576: true; the input reads as it did. -/
def fnExactIsValidEdgeUptoRow : OpenClaim := { program := "ytdcceppednngjaa", sum := "a00eeaba45ef52d0d0d92a4b26e39d320c0f99ac88359ea78c4803e7a833d877", func := "loop.example/g00811/laws.FnExactIsValidEdge", spec := "fnExactIsValidEdge", apart := false, narrowed := true }
def FnExactIsValidEdgeUptoSaid : Prop := fnExactIsValidEdgeUptoRow.holds Try.pinned (OpenSpec.upto fnExactIsValidEdgeSpec)

/-- 'laws.FnExactEdgesOf', WHERE WHAT IT READS IS OF BULK AT MOST 1048576: true; the input reads as it did. -/
def fnExactEdgesOfUptoRow : OpenClaim := { program := "ytdcceppednngjaa", sum := "a00eeaba45ef52d0d0d92a4b26e39d320c0f99ac88359ea78c4803e7a833d877", func := "loop.example/g00811/laws.FnExactEdgesOf", spec := "fnExactEdgesOf", unfollowed := true, recurses := true, apart := false, narrowed := true }
def FnExactEdgesOfUptoSaid : Prop := fnExactEdgesOfUptoRow.holds Try.pinned (OpenSpec.upto fnExactEdgesOfSpec)

/-- 'laws.FnExactHeightAt', WHERE WHAT IT READS IS OF BULK AT MOST 1048576: true; the input reads as it did. -/
def fnExactHeightAtUptoRow : OpenClaim := { program := "ytdcceppednngjaa", sum := "a00eeaba45ef52d0d0d92a4b26e39d320c0f99ac88359ea78c4803e7a833d877", func := "loop.example/g00811/laws.FnExactHeightAt", spec := "fnExactHeightAt", apart := false, narrowed := true }
def FnExactHeightAtUptoSaid : Prop := fnExactHeightAtUptoRow.holds Try.pinned (OpenSpec.upto fnExactHeightAtSpec)

/-- 'laws.FnExactSpansX', WHERE WHAT IT READS IS OF BULK AT MOST 1048576: true; the input reads as it did. -/
def fnExactSpansXUptoRow : OpenClaim := { program := "ytdcceppednngjaa", sum := "a00eeaba45ef52d0d0d92a4b26e39d320c0f99ac88359ea78c4803e7a833d877", func := "loop.example/g00811/laws.FnExactSpansX", spec := "fnExactSpansX", apart := false, narrowed := true }
def FnExactSpansXUptoSaid : Prop := fnExactSpansXUptoRow.holds Try.pinned (OpenSpec.upto fnExactSpansXSpec)

end Rows
end Go.Proofs.Ytdcceppednngjaa
