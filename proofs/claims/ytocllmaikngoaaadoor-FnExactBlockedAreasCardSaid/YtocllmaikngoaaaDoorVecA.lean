/-
  append of a list of vectors that can be read; the reference's order of vectors.
-/
import Derived.Test.YtocllmaikngoaaaDoorVecM
import Derived.Test.YtocllmaikngoaaaDoorPB
namespace Go.Proofs.YtocllmaikngoaaaDoor
open Go.RowKit
set_option linter.unusedVariables false
/-- append of a list that can be read, to a row of the call's own; elements of any size -/
theorem wpList_append_rdS {P : Program} {t e : TypeId} {size bytes : Nat} (T : SliceOf P t e size bytes) {ops : Array Oper} {rest : List Oper} {o : Oper} {a : Act} {Q : Exit → Act → World → Prop}
    (hgd : o.guard = none) (s x : Operand) (ho : o.op = .call { callee := .builtin .append, args := #[s, x], argTypes := #[t, t] })
    (W : World) (base : Nat) (v : Value) (n : Nat) (xs : List Value) (hown : W.ownsRow base e size v n xs) (hs : a.eval s = v)
    (B : Nat) (A : Option Addr) (m c : Nat) (news : List Value) (hx : a.eval x = .slice A m c) (hl : news.length = m * size) (R : Rd W B A news) (h1 : ∀ u ∈ news, u.oneCell' = true)
    (h63 : n + m ≤ maxLen) (hn : (n + m) * bytes ≤ 140737488355328) (hbase : base ≤ W.heap.size)
    (h : ∀ v' w', w'.ownsRow base e size v' (n + m) (xs ++ news) → Below base W w' → wpList P ops Q rest (a.put o.dst v') w') :
    wpList P ops Q (o :: rest) a W := by
  obtain ⟨ht, i, z, hi, hz, hsize, hby, hzs, hsz⟩ := T
  cases A with
  | none =>
    have hnil : news = [] := by
      rcases R with e | ⟨ad, e, _⟩
      · exact e
      · cases e
    subst hnil
    have hm : m = 0 := by
      have h0 : m * size = 0 := hl.symm
      rcases Nat.mul_eq_zero.1 h0 with h | h
      · exact h
      · omega
    subst hm
    refine wpList_plain hgd fun K hK => ?_
    have hrun := run_append_nilc (P := P) (w := W) base t o.type e i size ht hi v n xs hown c
    unfold Oper.wp
    simp [execOp, ho, resolve, invoke, builtin, hs, hx, hrun, Result.andThen]
    exact hK _ _ (h v W (by simpa using hown) (Below.refl _ _))
  | some ad =>
    refine wpList_append_own W hgd s x t ho base e i z size bytes ht hi hz hsize hby hzs hsz v n xs hs hown ad m c news hx hl ?_ h1 h63 hn hbase ?_
    · intro j u hu
      rcases R with e | ⟨ad', e, _, hc⟩
      · subst e; simp at hu
      · injection e with e; subst e; exact hc j u hu
    · intro v' w' hown' hgrow _
      exact h v' w' hown' ((Below.refl base W).grown hgrow hbase fun k hk => (hown.lt k hk).1)
theorem spec_Less (w : World) (a b : V2) (ha1 : (Lit.int .i64 a.1).wf = true) (ha2 : (Lit.int .i64 a.2).wf = true) (hb1 : (Lit.int .i64 b.1).wf = true) (hb2 : (Lit.int .i64 b.2).wf = true) :
    Calls Tryd.prog 73 #[.agg #[.int .i64 a.1, .int .i64 a.2], .agg #[.int .i64 b.1, .int .i64 b.2]] w fun e w' => e = .returned (.bool (decide (lt2 a b))) ∧ Below w.heap.size w w' := by
  obtain ⟨x0, y0⟩ := a
  obtain ⟨x1, y1⟩ := b
  simp only at *
  have HD : Hid (∀ t : Bool, (t = true ↔ (x0 < x1 ∨ x0 = x1 ∧ y0 < y1)) → t = decide (lt2 (x0, y0) (x1, y1))) := fun t h => by
    rw [Bool.eq_iff_iff, h, decide_eq_true_iff]; exact Iff.rfl
  generalize decide (lt2 (x0, y0) (x1, y1)) = D at HD ⊢
  obtain ⟨hx1, hx2⟩ := bounds_i64 ha1
  by_cases c1 : x0 < x1
  · go_enter Tryd.func73, Tryd.ntmps73
    go_wp2_with fail
    go_ret
    exact ⟨ret_bool (HD.out true (by simp [c1])), below_alloc (below_new _ _) _⟩
  · by_cases c2 : x0 = x1
    · subst c2
      go_enter Tryd.func73, Tryd.ntmps73
      go_wp2_with fail
      go_ret
      exact ⟨ret_bool (a := decide (y0 < y1)) (HD.out _ (by simp)), below_alloc (below_new _ _) _⟩
    · have c3 : (x0 == x1) = false := by simpa using c2
      go_enter Tryd.func73, Tryd.ntmps73
      go_wp2_with fail
      go_ret
      exact ⟨ret_bool (HD.out false (by simp [c1, c2])), below_alloc (below_new _ _) _⟩
end Go.Proofs.YtocllmaikngoaaaDoor
