/-
  The texts StrT, JoinI, PadP, put together; each has its own heading below. No condition of ours.
-/
import Derived.Test.YtdagomikjblgiaaGreatDoorMem
import Derived.Test.YtdagomikjblgiaaGreatDoorShelf
import Derived.Lib.Repeat
/-
  The type of lists of strings, as the program's table has it.
-/

namespace Go.Proofs.YtdagomikjblgiaaGreatDoor
open Go.RowKit
set_option linter.unusedVariables false

/-! ### toStringS: a copy in new memory -/
theorem Tryz.infoStr : (Tryz.prog.info? 9).map (fun i => (i.zero, i.size, i.bytes)) = some (some (.string ⟨#[]⟩), 1, 16) := by kernel_rfl

theorem Tryz.sliceStr : SliceOf Tryz.prog 55 9 1 16 := by
  obtain ⟨i0, hi0, hz0, hz1, hz2⟩ := info_parts Tryz.infoStr
  exact ⟨Tryz.underlying55, i0, _, hi0, hz0, hz1, hz2, rfl, by omega⟩
def sumS (xs : List ByteArray) : Nat := (xs.map (·.size)).sum

end Go.Proofs.YtdagomikjblgiaaGreatDoor

/-
  Strings joined: plain, and what Join answers, of the program.
-/


namespace Go.Proofs.YtdagomikjblgiaaGreatDoor
open Go.RowKit
set_option linter.unusedVariables false

/-- the elements joined, by the library's word -/
def joinL (xs : List ByteArray) (by_ : ByteArray) : List UInt8 := Lib.join (xs.map (·.data.toList)) by_.data.toList
def joinB (xs : List ByteArray) (by_ : ByteArray) : ByteArray := ⟨(joinL xs by_).toArray⟩
theorem joinL_nil (s : ByteArray) : joinL [] s = [] := rfl
theorem joinL_one (x s : ByteArray) : joinL [x] s = x.data.toList := by simp [joinL, Lib.join_one]
theorem joinL_snoc {xs : List ByteArray} (h : xs ≠ []) (x s : ByteArray) : joinL (xs ++ [x]) s = joinL xs s ++ s.data.toList ++ x.data.toList := by
  match xs, h with
  | y :: r, _ => simp [joinL, Lib.join_cons, Lib.joinTail]
theorem joinL_len (xs : List ByteArray) (s : ByteArray) : (joinL xs s).length ≤ sumS xs + xs.length * s.size := by
  match xs with
  | [] => simp [joinL_nil]
  | y :: r =>
    have h3 : Lib.lens (r.map (·.data.toList)) = sumS r := by
      simp only [Lib.lens, sumS, List.map_map]
      congr 1
    have h4 : sumS (y :: r) = y.size + sumS r := by simp [sumS]
    rw [joinL, List.map_cons, Lib.join_cons, List.length_append, Lib.joinTail_length, ba_size, ba_size, h3, h4, List.length_map, List.length_cons, Nat.succ_mul, Nat.mul_comm]
    omega
theorem join_bound (xs : List ByteArray) (s : ByteArray) (hl : xs.length ≤ 1048576) (hsum : sumS xs ≤ 1048576) (hs : s.size ≤ 1048576) : (joinL xs s).length ≤ 140737488355328 := by
  have h1 := joinL_len xs s
  have h2 : xs.length * s.size ≤ 1048576 * 1048576 := Nat.mul_le_mul hl hs
  omega
theorem joinWith_any (g n c : Nat) (xs : List ByteArray) (s : ByteArray) (w : World) (hn : xs.length = n) (hc : n ≤ c) (hcells : ∀ (j : Nat) x, xs[j]? = some x → w.cell? ⟨g, 0 + j, none⟩ = some (.string x)) (hg : g < w.heap.size) (hN : n ≤ 140737488355328) (hlen : (joinL xs s).length ≤ 140737488355328) :
    Calls Tryz.prog 27 #[.string s, .slice (some ⟨g, 0, none⟩) n c] w fun e w' => e = .returned (.string (joinB xs s)) ∧ Below w.heap.size w w' := by
  subst hn
  have HC := Tryz.strings_Join g 0 c xs s w hcells hg hN hc hlen
  clear hcells
  go_enter Tryz.func27, Tryz.ntmps27
  go_wp2_with (go_at_call 45; refine HC.mono ?_; rintro e w' ⟨rfl, hb⟩)
  go_ret
  exact ⟨rfl, hb⟩
end Go.Proofs.YtdagomikjblgiaaGreatDoor

/-
  Zeros in front of a text. Of no program.
-/


namespace Go.Proofs.YtdagomikjblgiaaGreatDoor
open Go.RowKit
set_option linter.unusedVariables false

/-- k zeros in front of the bytes -/
def padL (k : Nat) (l : List UInt8) : List UInt8 := List.replicate k 48 ++ l
def padB (s : ByteArray) (n : Int) : ByteArray := if n > 2000 then s else ⟨(padL (n - s.size).toNat s.data.toList).toArray⟩
end Go.Proofs.YtdagomikjblgiaaGreatDoor
