/-
  Two matrices compared.
-/
import Derived.Test.YtafhhemojdblpaaDoorLB
import Derived.DeepKeys
namespace Go.Proofs.YtafhhemojdblpaaDoor
open Go.RowKit
set_option linter.unusedVariables false
theorem Tryd.cellsMat : Tryd.prog.cellsOf 52 = 4 := by kernel_rfl
theorem Tryd.cellsVecH : Tryd.prog.cellsOf 36 = 2 := by kernel_rfl
theorem Tryd.cellsIntH : Tryd.prog.cellsOf 3 = 1 := by kernel_rfl
theorem lits_int (D : Nat) {a : Int} (ha : (Lit.int .i64 a).wf = true) : Tryd.prog.keyLits (D + 1) 3 [.int .i64 a] = some [.int .i64 a] := by
  unfold Program.keyLits
  rw [Tryd.underlying3]
  show (if _ then _ else _) = _
  rw [if_pos ⟨rfl, ha⟩]
theorem lits_vec (D : Nat) {a b : Int} (ha : (Lit.int .i64 a).wf = true) (hb : (Lit.int .i64 b).wf = true) : Tryd.prog.keyLits (D + 1 + 1) 36 [.int .i64 a, .int .i64 b] = some [.int .i64 a, .int .i64 b] := by
  unfold Program.keyLits
  rw [Tryd.underlying36]
  show (if _ then _ else _) = _
  rw [if_pos ⟨by rw [Tryd.cellsVecH]; rfl, by kernel_rfl⟩]
  simp only [List.mapM_cons, List.mapM_nil, Tryd.cellsIntH, List.drop_zero, List.drop_succ_cons, List.take_succ_cons, List.take_zero, lits_int D ha, lits_int D hb]
  rfl
theorem lits_mat (D : Nat) {a b c d : Int} (ha : (Lit.int .i64 a).wf = true) (hb : (Lit.int .i64 b).wf = true) (hc : (Lit.int .i64 c).wf = true) (hd : (Lit.int .i64 d).wf = true) :
    Tryd.prog.keyLits (D + 1 + 1 + 1) 52 [.int .i64 a, .int .i64 b, .int .i64 c, .int .i64 d] = some [.int .i64 a, .int .i64 b, .int .i64 c, .int .i64 d] := by
  unfold Program.keyLits
  rw [Tryd.underlying52]
  show (if _ then _ else _) = _
  rw [if_pos (by rw [Tryd.cellsMat]; rfl)]
  have e : List.range 2 = [0, 1] := rfl
  simp only [e, List.mapM_cons, List.mapM_nil, Tryd.cellsVecH, List.drop_zero, List.drop_succ_cons, List.take_succ_cons, List.take_zero, Nat.zero_mul, Nat.one_mul, lits_vec D ha hb, lits_vec D hc hd]
  rfl
theorem eql_mat (W : World) (a b c d a' b' c' d' : Int) (ha : (Lit.int .i64 a).wf = true) (hb : (Lit.int .i64 b).wf = true) (hc : (Lit.int .i64 c).wf = true) (hd : (Lit.int .i64 d).wf = true) (ha' : (Lit.int .i64 a').wf = true) (hb' : (Lit.int .i64 b').wf = true) (hc' : (Lit.int .i64 c').wf = true) (hd' : (Lit.int .i64 d').wf = true) :
    (binOp .eql 52 (.agg #[.int .i64 a, .int .i64 b, .int .i64 c, .int .i64 d]) (.agg #[.int .i64 a', .int .i64 b', .int .i64 c', .int .i64 d'])).run Tryd.prog W = .ok (.bool (decide (a = a' ∧ b = b' ∧ c = c' ∧ d = d'))) W := by
  rw [run_eql_struct]
  obtain ⟨r, h1, h2⟩ := run_equalIn_deep (P := Tryd.prog) 9990 10 52 (by kernel_rfl) W (7 + 1 + 1 + 1) (7 + 1 + 1 + 1) (.agg #[.int .i64 a, .int .i64 b, .int .i64 c, .int .i64 d]) (.agg #[.int .i64 a', .int .i64 b', .int .i64 c', .int .i64 d']) [.int .i64 a, .int .i64 b, .int .i64 c, .int .i64 d] [.int .i64 a', .int .i64 b', .int .i64 c', .int .i64 d'] (by kernel_rfl) (by kernel_rfl) (lits_mat 7 ha hb hc hd) (lits_mat 7 ha' hb' hc' hd')
  rw [h1]
  have e : r = decide (a = a' ∧ b = b' ∧ c = c' ∧ d = d') := by
    rw [Bool.eq_iff_iff, h2, decide_eq_true_eq]
    simp
  rw [e]
  rfl
end Go.Proofs.YtafhhemojdblpaaDoor
