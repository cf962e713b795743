/-
  Strings joined: plain, and what Join answers, of the program.
-/
import Derived.Test.YtfajcogkbmefjaaDoorStrT
import Derived.Test.YtfajcogkbmefjaaDoorShelf
namespace Go.Proofs.YtfajcogkbmefjaaDoor
open Go.RowKit
set_option linter.unusedVariables false

/-- the elements joined, by the library's word -/
def joinL (xs : List ByteArray) (by_ : ByteArray) : List UInt8 := Lib.join (xs.map (·.data.toList)) by_.data.toList
def joinB (xs : List ByteArray) (by_ : ByteArray) : ByteArray := ⟨(joinL xs by_).toArray⟩
theorem joinL_nil (s : ByteArray) : joinL [] s = [] := rfl
theorem joinL_one (x s : ByteArray) : joinL [x] s = x.data.toList := by simp [joinL, Lib.join_one]
theorem joinL_snoc {xs : List ByteArray} (h : xs ≠ []) (x s : ByteArray) : joinL (xs ++ [x]) s = joinL xs s ++ s.data.toList ++ x.data.toList := by
  match xs, h with
  | y :: r, _ => simp [joinL, Lib.join_cons, Lib.joinTail]
theorem joinL_len (xs : List ByteArray) (s : ByteArray) : (joinL xs s).length ≤ sumS xs + xs.length * s.size := by
  match xs with
  | [] => simp [joinL_nil]
  | y :: r =>
    have h3 : Lib.lens (r.map (·.data.toList)) = sumS r := by
      simp only [Lib.lens, sumS, List.map_map]
      congr 1
    have h4 : sumS (y :: r) = y.size + sumS r := by simp [sumS]
    rw [joinL, List.map_cons, Lib.join_cons, List.length_append, Lib.joinTail_length, ba_size, ba_size, h3, h4, List.length_map, List.length_cons, Nat.succ_mul, Nat.mul_comm]
    omega
theorem sumS_take_le (xs : List ByteArray) (k : Nat) : sumS (xs.take k) ≤ sumS xs := by
  have h := List.take_append_drop k xs
  have : sumS xs = sumS (xs.take k) + sumS (xs.drop k) := by
    conv => lhs; rw [← h]
    simp only [sumS, List.map_append, List.sum_append]
  omega
theorem join_bound (xs : List ByteArray) (s : ByteArray) (hl : xs.length ≤ 1048576) (hsum : sumS xs ≤ 1048576) (hs : s.size ≤ 1048576) : (joinL xs s).length ≤ 140737488355328 := by
  have h1 := joinL_len xs s
  have h2 : xs.length * s.size ≤ 1048576 * 1048576 := Nat.mul_le_mul hl hs
  omega
theorem joinWith_any (g n c : Nat) (xs : List ByteArray) (s : ByteArray) (w : World) (hn : xs.length = n) (hc : n ≤ c) (hcells : ∀ (j : Nat) x, xs[j]? = some x → w.cell? ⟨g, 0 + j, none⟩ = some (.string x)) (hg : g < w.heap.size) (hN : n ≤ 140737488355328) (hlen : (joinL xs s).length ≤ 140737488355328) :
    Calls Tryd.prog 20 #[.string s, .slice (some ⟨g, 0, none⟩) n c] w fun e w' => e = .returned (.string (joinB xs s)) ∧ Below w.heap.size w w' := by
  subst hn
  have HC := Tryd.strings_Join g 0 c xs s w hcells hg hN hc hlen
  clear hcells
  go_enter Tryd.func20, Tryd.ntmps20
  go_wp2_with (go_at_call 33; refine HC.mono ?_; rintro e w' ⟨rfl, hb⟩)
  go_ret
  exact ⟨rfl, hb⟩
end Go.Proofs.YtfajcogkbmefjaaDoor
