/-
  The texts SegX5, put together; each has its own heading below. No condition of ours.
-/
import Derived.Test.YtafhhemojdblpaaGreatDX
import Derived.Deep.RegionWith
import Derived.Deep.RegionHeld3
import Derived.Deep.CutRange
import Derived.Sort.AtCall
/-
  The program's distances: SquareBetween.
-/





namespace Go.Proofs.YtafhhemojdblpaaGreat
open Go.RowKit
set_option linter.unusedVariables false
theorem rd_cells {w : World} {B ga n : Nat} {l : List V2} (R : RdV w B (some ⟨ga, 0, none⟩) n l) (i : Nat) (hi : i < n) : w.cell? ⟨ga, i * 2, none⟩ = some (.int .i64 (atV l i).1) ∧ w.cell? ⟨ga, i * 2 + 1, none⟩ = some (.int .i64 (atV l i).2) := by
  have hl : i < l.length := by rw [R.1]; exact hi
  obtain ⟨ad, hA, hb, h1, h2⟩ := R.2.1.vec (k := i) hl
  obtain rfl : (⟨ga, 0, none⟩ : Addr) = ad := by simpa using hA
  have e : ((⟨ga, 0, none⟩ : Addr).add (i * 2)) = ⟨ga, i * 2, none⟩ := by unfold Addr.add; split <;> simp_all
  rw [e] at h1 h2
  rw [atV_eq hl]
  exact ⟨h1, h2⟩
theorem rd_block {w : World} {B ga n : Nat} {l : List V2} (R : RdV w B (some ⟨ga, 0, none⟩) n l) (h0 : 0 < n) : ga < B := by
  obtain ⟨ad, hA, hb, _⟩ := R.2.1.vec (k := 0) (by rw [R.1]; exact h0)
  obtain rfl : (⟨ga, 0, none⟩ : Addr) = ad := by simpa using hA
  exact hb
end Go.Proofs.YtafhhemojdblpaaGreat
