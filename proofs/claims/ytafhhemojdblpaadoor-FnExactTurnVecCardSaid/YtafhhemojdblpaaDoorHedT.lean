/-
  The table of quarter turns: what the row's list gives the walks.
-/
import Derived.Test.YtafhhemojdblpaaDoorHedP
import Derived.Test.YtafhhemojdblpaaDoorTie
import Derived.Stop.LaidErr
import Derived.LaidLaws
import Derived.Lib.LaidTab
import Derived.Lib.LaidU8
namespace Go.Proofs.YtafhhemojdblpaaDoor
open Go.RowKit
set_option linter.unusedVariables false
theorem Tryd.gQT : Tryd.prog.globalNamed "loop.example/g00811/impl.quarterTurns" = some 0 := by kernel_rfl
theorem Tryd.tQT : (Tryd.prog.globals[0]?).map (·.type) = some 53 := by kernel_rfl
def laidQ : List (String × DataW Unit) := [("loop.example/g00811/impl.quarterTurns", Rows.laid_loop_example_g00811_impl_quarterTurns)]
/-- the table's rows: four matrices of two vectors -/
def QTab (w : World) : Prop := 0 < w.heap.size ∧ ∀ i, i < 4 →
  w.cell? ⟨0, i * 4, none⟩ = some (.int .i64 (qx i).1) ∧ w.cell? ⟨0, i * 4 + 1, none⟩ = some (.int .i64 (qx i).2) ∧
  w.cell? ⟨0, i * 4 + 2, none⟩ = some (.int .i64 (qy i).1) ∧ w.cell? ⟨0, i * 4 + 3, none⟩ = some (.int .i64 (qy i).2)
theorem QTab.below {B : Nat} {w w' : World} (h : QTab w) (hb : Below B w w') (hB : w.heap.size ≤ B) : QTab w' := by
  obtain ⟨h0, h1⟩ := h
  refine ⟨Nat.lt_of_lt_of_le h0 hb.size, fun i hi => ?_⟩
  obtain ⟨a, b, c, d⟩ := h1 i hi
  exact ⟨(hb.cell (Nat.lt_of_lt_of_le h0 hB)).trans a, (hb.cell (Nat.lt_of_lt_of_le h0 hB)).trans b, (hb.cell (Nat.lt_of_lt_of_le h0 hB)).trans c, (hb.cell (Nat.lt_of_lt_of_le h0 hB)).trans d⟩
theorem vec_cells {H : Type} {enc : TypeId × Value → H} {w : World} {base : Nat} {sp : Nat → Bool} {held : Bool} {fuel : Nat} {cs : List Value} {p : List MemPlace} {a b : Int}
    (h : DataW.trod enc Tryd.prog w base sp held fuel 36 cs = some (.agg [.lit (.int .i64 a), .lit (.int .i64 b)], p)) : cs = [.int .i64 a, .int .i64 b] := by
  refine Lib.ints_of_struct (k := .i64) (zs := [a, b]) Tryd.underlying36 ?_ (by kernel_rfl) h
  intro i f hf
  rcases (show i = 0 ∨ i = 1 ∨ 2 ≤ i by omega) with rfl | rfl | hi
  · simp at hf; subst hf; exact ⟨Tryd.underlying3, rfl, by kernel_rfl⟩
  · simp at hf; subst hf; exact ⟨Tryd.underlying3, rfl, by kernel_rfl⟩
  · rw [Array.getElem?_eq_none (by simpa using hi)] at hf; cases hf
theorem mat_cells {H : Type} {enc : TypeId × Value → H} {w : World} {base : Nat} {sp : Nat → Bool} {held : Bool} {fuel : Nat} {cs : List Value} {p : List MemPlace} {a b c d : Int}
    (h : DataW.trod enc Tryd.prog w base sp held fuel 52 cs = some (.agg [.agg [.lit (.int .i64 a), .lit (.int .i64 b)], .agg [.lit (.int .i64 c), .lit (.int .i64 d)]], p)) :
    cs[0]? = some (.int .i64 a) ∧ cs[1]? = some (.int .i64 b) ∧ cs[2]? = some (.int .i64 c) ∧ cs[3]? = some (.int .i64 d) := by
  obtain ⟨f0, d0, q0, e0, h0⟩ := Lib.array_elem Tryd.underlying52 h 0 (by omega)
  obtain ⟨f1, d1, q1, e1, h1⟩ := Lib.array_elem Tryd.underlying52 h 1 (by omega)
  rw [show Tryd.prog.cellsOf 36 = 2 by kernel_rfl] at h0 h1
  simp only [List.getElem?_cons_zero, List.getElem?_cons_succ, Option.some.injEq] at e0 e1
  subst e0 e1
  have k0 := vec_cells h0
  have k1 := vec_cells h1
  have g : ∀ (r s i : Nat) (v : Value) (l : List Value), (cs.drop r).take s = l → i < s → l[i]? = some v → cs[r + i]? = some v := fun r s i v l e hi hv => by
    rw [← e, List.getElem?_take, if_pos hi, List.getElem?_drop] at hv
    exact hv
  exact ⟨g 0 2 0 _ _ k0 (by omega) rfl, g 0 2 1 _ _ k0 (by omega) rfl, g 2 2 0 _ _ k1 (by omega) rfl, g 2 2 1 _ _ k1 (by omega) rfl⟩
theorem q_of_laid {W : World} (h : laidMet Tryd.prog laidQ W) : QTab W := by
  obtain ⟨g, t, cs, fuel, p, hg, hty, hvar, hd⟩ := Lib.laidMet.reads h (.head _)
  obtain rfl := Option.some.inj (Tryd.gQT.symm.trans hg)
  obtain rfl := Option.some.inj (Tryd.tQT.symm.trans hty)
  have hc := fun i => World.var?_cell Tryd.gQT hvar i
  have hlt : 0 < W.heap.size := by
    unfold World.var? at hvar
    rw [Tryd.gQT] at hvar
    simp only [Option.bind_some] at hvar
    cases hh : W.heap[0]? with
    | none => rw [hh] at hvar; cases hvar
    | some o => exact (Array.getElem?_eq_some_iff.1 hh).1
  refine ⟨hlt, fun i hi => ?_⟩
  obtain ⟨f0, d0, q0, e0, h0⟩ := Lib.array_elem Tryd.underlying53 hd i hi
  rw [show Tryd.prog.cellsOf 52 = 4 by kernel_rfl] at h0
  have g : ∀ (j : Nat) (v : Value), j < 4 → ((cs.toList.drop (i * 4)).take 4)[j]? = some v → W.cell? ⟨0, i * 4 + j, none⟩ = some v := fun j v hj hv => by
    rw [hc, ← Array.getElem?_toList]
    rw [List.getElem?_take, if_pos hj, List.getElem?_drop] at hv
    exact hv
  have key : ∀ a b c d : Int, d0 = .agg [.agg [.lit (.int .i64 a), .lit (.int .i64 b)], .agg [.lit (.int .i64 c), .lit (.int .i64 d)]] → (qx i).1 = a → (qx i).2 = b → (qy i).1 = c → (qy i).2 = d → _ := fun a b c d e ha hb hc hd => by
    subst e
    obtain ⟨m0, m1, m2, m3⟩ := mat_cells h0
    rw [← ha] at m0; rw [← hb] at m1; rw [← hc] at m2; rw [← hd] at m3
    exact (⟨g 0 _ (by omega) m0, g 1 _ (by omega) m1, g 2 _ (by omega) m2, g 3 _ (by omega) m3⟩ : W.cell? ⟨0, i * 4 + 0, none⟩ = some (.int .i64 (qx i).1) ∧ W.cell? ⟨0, i * 4 + 1, none⟩ = some (.int .i64 (qx i).2) ∧ W.cell? ⟨0, i * 4 + 2, none⟩ = some (.int .i64 (qy i).1) ∧ W.cell? ⟨0, i * 4 + 3, none⟩ = some (.int .i64 (qy i).2))
  rcases (show i = 0 ∨ i = 1 ∨ i = 2 ∨ i = 3 by omega) with rfl | rfl | rfl | rfl
  · exact key 1 0 0 1 (Option.some.inj e0).symm (by decide) (by decide) (by decide) (by decide)
  · exact key 0 1 (-1) 0 (Option.some.inj e0).symm (by decide) (by decide) (by decide) (by decide)
  · exact key (-1) 0 0 (-1) (Option.some.inj e0).symm (by decide) (by decide) (by decide) (by decide)
  · exact key 0 (-1) 1 0 (Option.some.inj e0).symm (by decide) (by decide) (by decide) (by decide)
end Go.Proofs.YtafhhemojdblpaaDoor
