/-
  The texts FmtN, FmtI, put together; each has its own heading below. No condition of ours.
-/
import Derived.Test.YtdagomikjblgiaaGreatDoorItoaD
import Derived.Test.YtdagomikjblgiaaGreatDoorSJ
import Derived.Test.YtdagomikjblgiaaGreatDoorPB
import Derived.Test.YtdagomikjblgiaaGreatDoorShelf
import Derived.WalkSmall
import Derived.Lib.ItoaMem
import Derived.Deep.RegionWith
import Derived.IntWalk
/-
  A natural number's text: what FormatNat answers, and that ParseNat gives it back. Of no program.
-/




namespace Go.Proofs.YtdagomikjblgiaaGreatDoor
open Go.RowKit
set_option linter.unusedVariables false

/-- one group of nine digits -/
def grp (d : Int) : ByteArray := padB (itoaB d) 9
/-- the groups of a number's text, the first one first, j of them behind it -/
def tx (a : List Int) : Nat → List ByteArray
  | 0 => [itoaB (a.getD (a.length - 1) 0)]
  | j + 1 => tx a j ++ [grp (a.getD (a.length - 2 - j) 0)]
def fmtB (a : List Int) : ByteArray := if natB a then (if a = [] then ⟨#[48]⟩ else joinB (tx a (a.length - 1)) ⟨#[]⟩) else ⟨#[]⟩
end Go.Proofs.YtdagomikjblgiaaGreatDoor

/-
  What FormatInt answers, of the program and of the reference: walks (contracts) over their translation.
-/






namespace Go.Proofs.YtdagomikjblgiaaGreatDoor
open Go.RowKit
set_option linter.unusedVariables false
set_option maxRecDepth 100000

/-! ### the program's: the library's Itoa, over its table of powers -/
def PowTab (w : World) : Prop := Lib.TabIs Tryz.prog w "internal/strconv.uint64pow10" .u64 Lib.pow10Tab
theorem Tryz.gPow : Tryz.prog.globalNamed "internal/strconv.uint64pow10" = some 3 := by kernel_rfl
theorem Tryz.tPow : (Tryz.prog.globals[3]?).map (·.type) = some 164 := by kernel_rfl
theorem PowTab.below {B : Nat} {w w' : World} (h : PowTab w) (hb : Below B w w') (hB : 3 < B) : PowTab w' := var?_below hb Tryz.gPow hB h
theorem PowTab.lt {w : World} (h : PowTab w) : 3 < w.heap.size := by
  have := World.var?_cell Tryz.gPow h 0
  exact World.block_lt_of_cell? w ⟨3, 0, none⟩ (u := .int .u64 1) (by rw [this]; rfl)
theorem below_grow (w : World) (k : Nat) (os : Array Obj) : Below w.heap.size w (Go.Sort.grow (w.drewN k) os) :=
  ⟨rfl, rfl, rfl, by simp [Go.Sort.grow], fun i hi => by simp [Go.Sort.grow, Array.getElem?_append, hi]⟩
theorem impl_FormatInt (n : Int) (w : World) (h : (Lit.int .i64 n).wf = true) (hT : PowTab w) :
    Calls Tryz.prog 44 #[.int .i64 n] w fun e w' => e = .returned (.string (itoaB n)) ∧ Below w.heap.size w w' := by
  obtain ⟨h1, h2⟩ := bounds_i64 h
  have HC := Tryz.strconv_Itoa n h1 h2 w hT
  go_enter Tryz.func44, Tryz.ntmps44
  go_wp2_with fail
  refine HC.mono ?_
  rintro e w1 ⟨rfl, k, os, rfl⟩
  have hb := below_grow w k os
  go_wp2
  go_ret
  exact ⟨rfl, hb⟩
end Go.Proofs.YtdagomikjblgiaaGreatDoor
