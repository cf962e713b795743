/-
  No cell of these rows narrows 'for every input' (looked for: loops, veiled, ifaces, maps, wideKeys, modest, calm, conditions, laid).
  DERIVED. THE GIVEN ROWS OF THIS SEAT. 8 by the template 'for every input the law returns true; each argument reads behind the call as it read before'; 0 by the template 'total and deterministic' (their statements: YtdagomikjblgiaaTotals.lean).
  GIVEN WITH THE SEED: the statements are not yours to turn. If you find one false, say at which input.
  Laid BY PROGRAM, IN A SANDBOX (cutbox-rows.mjs): the forced cells as the released guide's own fill.sh prints them over the translation 503bf1f83de33bdd… (all of the seat's roots in one cut). By AI agents, Wed Nov 11 2026. No macro, syntax, notation, axiom, sorry.
-/
import Derived.Test.YtdagomikjblgiaaChecked
import GoSem.Claim
import GoSem.ClaimJoined
import GoSem.ClaimMapViews
import Derived.JoinedTies
import Derived.KernelRfl
namespace Go.Proofs.Ytdagomikjblgiaa
/- THE CELL 'sum', in the pinned program and in every row, IS THE sha256 OF THE DUMP (.gsa) THAT YtdagomikjblgiaaProg.lean LOADS. Nothing in Lean hashes anything: it is a label: what it is worth is what the hold of that sum in a sandbox is worth. -/
noncomputable def Try.pinned : Pinned := { name := "ytdagomikjblgiaa", sum := "503bf1f83de33bdde675808561d7d3c199f292b37d22e882db5924be0da77f82", checked := Try.checked }
namespace Rows
def none {H : Type} : Left H := { results := [], args := [] }

/-- 'laws.FnExactSumPolygons': WHATEVER THE INPUT: true; the input reads as it did. -/
def fnExactSumPolygonsSpec : ChangeSpec := { name := "fnExactSumPolygons", fn := fun _ => fun
  | [d1, d2] => { results := [.lit (.bool true)], args := [d1, d2] }
  | _ => none }
def fnExactSumPolygonsRow : OpenClaim := { program := "ytdagomikjblgiaa", sum := "503bf1f83de33bdde675808561d7d3c199f292b37d22e882db5924be0da77f82", func := "loop.example/g00811/laws.FnExactSumPolygons", spec := "fnExactSumPolygons", unfollowed := true, recurses := true, apart := false }
def FnExactSumPolygonsSaid : Prop := fnExactSumPolygonsRow.holds Try.pinned (OpenSpec.ofChange fnExactSumPolygonsSpec)

/-- ITS FALSE NEIGHBOUR: 'it returns false'. Refute it at one input. -/
def fnExactSumPolygonsWrong : ChangeSpec := { name := "fnExactSumPolygons", fn := fun _ => fun
  | [d1, d2] => { results := [.lit (.bool false)], args := [d1, d2] }
  | _ => none }
def FnExactSumPolygonsWrongFalsely : Prop := fnExactSumPolygonsRow.holds Try.pinned (OpenSpec.ofChange fnExactSumPolygonsWrong)

/-- 'laws.FnExactObstacleFor': WHATEVER THE INPUT: true; the input reads as it did. -/
def fnExactObstacleForSpec : ChangeSpec := { name := "fnExactObstacleFor", fn := fun _ => fun
  | [d1, d2] => { results := [.lit (.bool true)], args := [d1, d2] }
  | _ => none }
def fnExactObstacleForRow : OpenClaim := { program := "ytdagomikjblgiaa", sum := "503bf1f83de33bdde675808561d7d3c199f292b37d22e882db5924be0da77f82", func := "loop.example/g00811/laws.FnExactObstacleFor", spec := "fnExactObstacleFor", unfollowed := true, recurses := true, apart := false }
def FnExactObstacleForSaid : Prop := fnExactObstacleForRow.holds Try.pinned (OpenSpec.ofChange fnExactObstacleForSpec)

/-- ITS FALSE NEIGHBOUR: 'it returns false'. Refute it at one input. -/
def fnExactObstacleForWrong : ChangeSpec := { name := "fnExactObstacleFor", fn := fun _ => fun
  | [d1, d2] => { results := [.lit (.bool false)], args := [d1, d2] }
  | _ => none }
def FnExactObstacleForWrongFalsely : Prop := fnExactObstacleForRow.holds Try.pinned (OpenSpec.ofChange fnExactObstacleForWrong)

/-- 'laws.FnExactSeparatingEdge': WHATEVER THE INPUT: true; the input reads as it did. -/
def fnExactSeparatingEdgeSpec : ChangeSpec := { name := "fnExactSeparatingEdge", fn := fun _ => fun
  | [d1, d2] => { results := [.lit (.bool true)], args := [d1, d2] }
  | _ => none }
def fnExactSeparatingEdgeRow : OpenClaim := { program := "ytdagomikjblgiaa", sum := "503bf1f83de33bdde675808561d7d3c199f292b37d22e882db5924be0da77f82", func := "loop.example/g00811/laws.FnExactSeparatingEdge", spec := "fnExactSeparatingEdge", unfollowed := true, recurses := true, apart := false }
def FnExactSeparatingEdgeSaid : Prop := fnExactSeparatingEdgeRow.holds Try.pinned (OpenSpec.ofChange fnExactSeparatingEdgeSpec)

/-- ITS FALSE NEIGHBOUR: 'it returns false'. Refute it at one input. -/
def fnExactSeparatingEdgeWrong : ChangeSpec := { name := "fnExactSeparatingEdge", fn := fun _ => fun
  | [d1, d2] => { results := [.lit (.bool false)], args := [d1, d2] }
  | _ => none }
def FnExactSeparatingEdgeWrongFalsely : Prop := fnExactSeparatingEdgeRow.holds Try.pinned (OpenSpec.ofChange fnExactSeparatingEdgeWrong)

/-- 'laws.FnExactTouches': WHATEVER THE INPUT: true; the input reads as it did. -/
def fnExactTouchesSpec : ChangeSpec := { name := "fnExactTouches", fn := fun _ => fun
  | [d1, d2] => { results := [.lit (.bool true)], args := [d1, d2] }
  | _ => none }
def fnExactTouchesRow : OpenClaim := { program := "ytdagomikjblgiaa", sum := "503bf1f83de33bdde675808561d7d3c199f292b37d22e882db5924be0da77f82", func := "loop.example/g00811/laws.FnExactTouches", spec := "fnExactTouches", unfollowed := true, recurses := true, apart := false }
def FnExactTouchesSaid : Prop := fnExactTouchesRow.holds Try.pinned (OpenSpec.ofChange fnExactTouchesSpec)

/-- ITS FALSE NEIGHBOUR: 'it returns false'. Refute it at one input. -/
def fnExactTouchesWrong : ChangeSpec := { name := "fnExactTouches", fn := fun _ => fun
  | [d1, d2] => { results := [.lit (.bool false)], args := [d1, d2] }
  | _ => none }
def FnExactTouchesWrongFalsely : Prop := fnExactTouchesRow.holds Try.pinned (OpenSpec.ofChange fnExactTouchesWrong)

/-- 'laws.FnExactWidthOf': WHATEVER THE INPUT: true; the input reads as it did. -/
def fnExactWidthOfSpec : ChangeSpec := { name := "fnExactWidthOf", fn := fun _ => fun
  | [d] => { results := [.lit (.bool true)], args := [d] }
  | _ => none }
def fnExactWidthOfRow : OpenClaim := { program := "ytdagomikjblgiaa", sum := "503bf1f83de33bdde675808561d7d3c199f292b37d22e882db5924be0da77f82", func := "loop.example/g00811/laws.FnExactWidthOf", spec := "fnExactWidthOf", apart := false }
def FnExactWidthOfSaid : Prop := fnExactWidthOfRow.holds Try.pinned (OpenSpec.ofChange fnExactWidthOfSpec)

/-- ITS FALSE NEIGHBOUR: 'it returns false'. Refute it at one input. -/
def fnExactWidthOfWrong : ChangeSpec := { name := "fnExactWidthOf", fn := fun _ => fun
  | [d] => { results := [.lit (.bool false)], args := [d] }
  | _ => none }
def FnExactWidthOfWrongFalsely : Prop := fnExactWidthOfRow.holds Try.pinned (OpenSpec.ofChange fnExactWidthOfWrong)

/-- 'laws.FnExactMoveToOrigin': WHATEVER THE INPUT: true; the input reads as it did. -/
def fnExactMoveToOriginSpec : ChangeSpec := { name := "fnExactMoveToOrigin", fn := fun _ => fun
  | [d] => { results := [.lit (.bool true)], args := [d] }
  | _ => none }
def fnExactMoveToOriginRow : OpenClaim := { program := "ytdagomikjblgiaa", sum := "503bf1f83de33bdde675808561d7d3c199f292b37d22e882db5924be0da77f82", func := "loop.example/g00811/laws.FnExactMoveToOrigin", spec := "fnExactMoveToOrigin", unfollowed := true, recurses := true, apart := false }
def FnExactMoveToOriginSaid : Prop := fnExactMoveToOriginRow.holds Try.pinned (OpenSpec.ofChange fnExactMoveToOriginSpec)

/-- ITS FALSE NEIGHBOUR: 'it returns false'. Refute it at one input. -/
def fnExactMoveToOriginWrong : ChangeSpec := { name := "fnExactMoveToOrigin", fn := fun _ => fun
  | [d] => { results := [.lit (.bool false)], args := [d] }
  | _ => none }
def FnExactMoveToOriginWrongFalsely : Prop := fnExactMoveToOriginRow.holds Try.pinned (OpenSpec.ofChange fnExactMoveToOriginWrong)

/-- 'laws.FnHull': WHATEVER THE INPUT: true; the input reads as it did. -/
def fnHullSpec : ChangeSpec := { name := "fnHull", fn := fun _ => fun
  | [d] => { results := [.lit (.bool true)], args := [d] }
  | _ => none }
def fnHullRow : OpenClaim := { program := "ytdagomikjblgiaa", sum := "503bf1f83de33bdde675808561d7d3c199f292b37d22e882db5924be0da77f82", func := "loop.example/g00811/laws.FnHull", spec := "fnHull", unfollowed := true, recurses := true, apart := false }
def FnHullSaid : Prop := fnHullRow.holds Try.pinned (OpenSpec.ofChange fnHullSpec)

/-- ITS FALSE NEIGHBOUR: 'it returns false'. Refute it at one input. -/
def fnHullWrong : ChangeSpec := { name := "fnHull", fn := fun _ => fun
  | [d] => { results := [.lit (.bool false)], args := [d] }
  | _ => none }
def FnHullWrongFalsely : Prop := fnHullRow.holds Try.pinned (OpenSpec.ofChange fnHullWrong)

/-- 'laws.FnSums': WHATEVER THE INPUT: true; the input reads as it did. -/
def fnSumsSpec : ChangeSpec := { name := "fnSums", fn := fun _ => fun
  | [d] => { results := [.lit (.bool true)], args := [d] }
  | _ => none }
def fnSumsRow : OpenClaim := { program := "ytdagomikjblgiaa", sum := "503bf1f83de33bdde675808561d7d3c199f292b37d22e882db5924be0da77f82", func := "loop.example/g00811/laws.FnSums", spec := "fnSums", unfollowed := true, recurses := true, apart := false }
def FnSumsSaid : Prop := fnSumsRow.holds Try.pinned (OpenSpec.ofChange fnSumsSpec)

/-- ITS FALSE NEIGHBOUR: 'it returns false'. Refute it at one input. -/
def fnSumsWrong : ChangeSpec := { name := "fnSums", fn := fun _ => fun
  | [d] => { results := [.lit (.bool false)], args := [d] }
  | _ => none }
def FnSumsWrongFalsely : Prop := fnSumsRow.holds Try.pinned (OpenSpec.ofChange fnSumsWrong)

/- THE SECOND FORM. 'bulk': how many values and letters a reading holds, each counted each time it is reached (what is shared counts as often as it is met; a slice's spare places count too). A statement '..UptoSaid' is the law's where the arguments, and the package variables that the reading takes, are together of bulk at most 1048576: NARROWER than '..Said'. Prove '..Said' where nothing that the law and all that it calls make is longer than what came in: it says more and counts as full. Else prove '..UptoSaid'. A law counts once. -/
mutual
def uptoBulk {H : Type} : DataW H → Nat
  | .lit (.string bytes) => bytes.length + 1
  | .lit _ => 1
  | .nil => 1
  | .ptr d => uptoBulk d + 1
  | .slice elems spare => uptoBulkAll elems + uptoBulkAll spare + 1
  | .agg parts => uptoBulkAll parts + 1
  | .iface _ d => uptoBulk d + 1
  | .map entries => uptoBulkEntries entries + 1
  | .held _ => 1
def uptoBulkAll {H : Type} : List (DataW H) → Nat
  | [] => 0
  | d :: r => uptoBulk d + uptoBulkAll r
def uptoBulkEntries {H : Type} : List (Lit × DataW H) → Nat
  | [] => 0
  | x :: r => uptoBulkEntry x + uptoBulkEntries r
def uptoBulkEntry {H : Type} : Lit × DataW H → Nat
  | (.string bytes, d) => bytes.length + uptoBulk d + 1
  | (_, d) => uptoBulk d + 1
 end
def uptoSmall : (H : Type) → List (DataW H) → Bool := fun _ ds => decide (uptoBulkAll ds ≤ 1048576)
def OpenSpec.upto (s : _root_.Go.ChangeSpec) : _root_.Go.OpenSpec := { _root_.Go.OpenSpec.ofChange s with cond := some uptoSmall }

/-- 'laws.FnExactSumPolygons', WHERE WHAT IT READS IS OF BULK AT MOST 1048576: true; the input reads as it did. -/
def fnExactSumPolygonsUptoRow : OpenClaim := { program := "ytdagomikjblgiaa", sum := "503bf1f83de33bdde675808561d7d3c199f292b37d22e882db5924be0da77f82", func := "loop.example/g00811/laws.FnExactSumPolygons", spec := "fnExactSumPolygons", unfollowed := true, recurses := true, apart := false, narrowed := true }
def FnExactSumPolygonsUptoSaid : Prop := fnExactSumPolygonsUptoRow.holds Try.pinned (OpenSpec.upto fnExactSumPolygonsSpec)

/-- 'laws.FnExactObstacleFor', WHERE WHAT IT READS IS OF BULK AT MOST 1048576: true; the input reads as it did. -/
def fnExactObstacleForUptoRow : OpenClaim := { program := "ytdagomikjblgiaa", sum := "503bf1f83de33bdde675808561d7d3c199f292b37d22e882db5924be0da77f82", func := "loop.example/g00811/laws.FnExactObstacleFor", spec := "fnExactObstacleFor", unfollowed := true, recurses := true, apart := false, narrowed := true }
def FnExactObstacleForUptoSaid : Prop := fnExactObstacleForUptoRow.holds Try.pinned (OpenSpec.upto fnExactObstacleForSpec)

/-- 'laws.FnExactSeparatingEdge', WHERE WHAT IT READS IS OF BULK AT MOST 1048576: true; the input reads as it did. -/
def fnExactSeparatingEdgeUptoRow : OpenClaim := { program := "ytdagomikjblgiaa", sum := "503bf1f83de33bdde675808561d7d3c199f292b37d22e882db5924be0da77f82", func := "loop.example/g00811/laws.FnExactSeparatingEdge", spec := "fnExactSeparatingEdge", unfollowed := true, recurses := true, apart := false, narrowed := true }
def FnExactSeparatingEdgeUptoSaid : Prop := fnExactSeparatingEdgeUptoRow.holds Try.pinned (OpenSpec.upto fnExactSeparatingEdgeSpec)

/-- 'laws.FnExactTouches', WHERE WHAT IT READS IS OF BULK AT MOST 1048576: true; the input reads as it did. -/
def fnExactTouchesUptoRow : OpenClaim := { program := "ytdagomikjblgiaa", sum := "503bf1f83de33bdde675808561d7d3c199f292b37d22e882db5924be0da77f82", func := "loop.example/g00811/laws.FnExactTouches", spec := "fnExactTouches", unfollowed := true, recurses := true, apart := false, narrowed := true }
def FnExactTouchesUptoSaid : Prop := fnExactTouchesUptoRow.holds Try.pinned (OpenSpec.upto fnExactTouchesSpec)

/-- 'laws.FnExactWidthOf', WHERE WHAT IT READS IS OF BULK AT MOST 1048576: true; the input reads as it did. -/
def fnExactWidthOfUptoRow : OpenClaim := { program := "ytdagomikjblgiaa", sum := "503bf1f83de33bdde675808561d7d3c199f292b37d22e882db5924be0da77f82", func := "loop.example/g00811/laws.FnExactWidthOf", spec := "fnExactWidthOf", apart := false, narrowed := true }
def FnExactWidthOfUptoSaid : Prop := fnExactWidthOfUptoRow.holds Try.pinned (OpenSpec.upto fnExactWidthOfSpec)

/-- 'laws.FnExactMoveToOrigin', WHERE WHAT IT READS IS OF BULK AT MOST 1048576: true; the input reads as it did. -/
def fnExactMoveToOriginUptoRow : OpenClaim := { program := "ytdagomikjblgiaa", sum := "503bf1f83de33bdde675808561d7d3c199f292b37d22e882db5924be0da77f82", func := "loop.example/g00811/laws.FnExactMoveToOrigin", spec := "fnExactMoveToOrigin", unfollowed := true, recurses := true, apart := false, narrowed := true }
def FnExactMoveToOriginUptoSaid : Prop := fnExactMoveToOriginUptoRow.holds Try.pinned (OpenSpec.upto fnExactMoveToOriginSpec)

/-- 'laws.FnHull', WHERE WHAT IT READS IS OF BULK AT MOST 1048576: true; the input reads as it did. -/
def fnHullUptoRow : OpenClaim := { program := "ytdagomikjblgiaa", sum := "503bf1f83de33bdde675808561d7d3c199f292b37d22e882db5924be0da77f82", func := "loop.example/g00811/laws.FnHull", spec := "fnHull", unfollowed := true, recurses := true, apart := false, narrowed := true }
def FnHullUptoSaid : Prop := fnHullUptoRow.holds Try.pinned (OpenSpec.upto fnHullSpec)

/-- 'laws.FnSums', WHERE WHAT IT READS IS OF BULK AT MOST 1048576: true; the input reads as it did. -/
def fnSumsUptoRow : OpenClaim := { program := "ytdagomikjblgiaa", sum := "503bf1f83de33bdde675808561d7d3c199f292b37d22e882db5924be0da77f82", func := "loop.example/g00811/laws.FnSums", spec := "fnSums", unfollowed := true, recurses := true, apart := false, narrowed := true }
def FnSumsUptoSaid : Prop := fnSumsUptoRow.holds Try.pinned (OpenSpec.upto fnSumsSpec)

end Rows
end Go.Proofs.Ytdagomikjblgiaa
