/-
  The program's natural numbers: contracts (1): splitSum, cutZeros, fitting, widened.
-/
import Derived.Test.YtcainjgcfbgddaaDoorNatM
import Derived.Laws.CopyOwn
namespace Go.Proofs.YtcainjgcfbgddaaDoor
open Go.RowKit
set_option linter.unusedVariables false

theorem ret_ii {a b c d : Int} (h1 : a = b) (h2 : c = d) : Ending.returned (.tuple #[.int .i64 a, .int .i64 c]) = .returned (.tuple #[.int .i64 b, .int .i64 d]) := by rw [h1, h2]
theorem tdiv_neg_nat (t : Nat) : Int.tdiv (-(t : Int)) 1000000000 = -((t / 1000000000 : Nat) : Int) := by
  rw [Int.neg_tdiv]; rfl
/-! ### cutZeros, fitting -/
theorem Own.cut3 {w : World} {lo hi n m c c' : Nat} {E : TypeId} {A : Option Addr} {xs : List Int} (o : Own w lo hi E (.slice A n c) n (iv xs)) (hm : m ≤ n) (hc : m ≤ c') (h0 : A = none → c' = 0) : Own w lo hi E (.slice A m c') m (iv (xs.take m)) := by
  have hl := o.len
  rw [iv_len] at hl
  refine ⟨by rw [iv_len, List.length_take]; omega, ?_⟩
  rcases o.2 with ⟨h1, h2⟩ | ⟨g, c2, cur, hv, hbg, hgh, h1, h2, hg, r⟩
  · injection h1 with h1 _ _
    subst h1
    obtain rfl := h0 rfl
    obtain rfl : m = 0 := by omega
    exact .inl ⟨rfl, rfl⟩
  · injection hv with hv _ _
    subst hv
    refine .inr ⟨g, c', cur, rfl, hbg, hgh, by omega, h2, hg, ?_⟩
    rw [show iv (xs.take m) = (iv xs).take m by simp [iv, List.map_take], ← r, List.take_take]
    congr 1; omega
/-- a slice without spare room -/
def Tight (v : Value) (n : Nat) : Prop := ∃ A, v = .slice A n n
/-! ### widened -/
theorem made_zeros (n : Nat) : (madeCells (Value.int .i64 0).cells (n * 1)).toList = iv (List.replicate n 0) := by
  apply List.ext_getElem
  · simp [madeCells, iv, Value.cells]
  · intro i h1 h2
    simp [madeCells, iv, Value.cells, Nat.mod_one]
theorem Tryd.sizeInt : (Tryd.prog.info? 3).map (·.size) = some 1 := by kernel_rfl
end Go.Proofs.YtcainjgcfbgddaaDoor
