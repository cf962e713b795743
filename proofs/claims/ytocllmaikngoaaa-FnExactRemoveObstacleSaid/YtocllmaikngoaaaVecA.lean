/-
  append of a list of vectors that can be read; the reference's order of vectors.
-/
import Derived.Test.YtocllmaikngoaaaVecM
import Derived.Test.YtocllmaikngoaaaPB
namespace Go.Proofs.Ytocllmaikngoaaa
open Go.RowKit
set_option linter.unusedVariables false
/-- append of a list that can be read, to a row of the call's own; elements of any size -/
theorem wpList_append_rdS {P : Program} {t e : TypeId} {size bytes : Nat} (T : SliceOf P t e size bytes) {ops : Array Oper} {rest : List Oper} {o : Oper} {a : Act} {Q : Exit → Act → World → Prop}
    (hgd : o.guard = none) (s x : Operand) (ho : o.op = .call { callee := .builtin .append, args := #[s, x], argTypes := #[t, t] })
    (W : World) (base : Nat) (v : Value) (n : Nat) (xs : List Value) (hown : W.ownsRow base e size v n xs) (hs : a.eval s = v)
    (B : Nat) (A : Option Addr) (m c : Nat) (news : List Value) (hx : a.eval x = .slice A m c) (hl : news.length = m * size) (R : Rd W B A news) (h1 : ∀ u ∈ news, u.oneCell' = true)
    (h63 : n + m ≤ maxLen) (hn : (n + m) * bytes ≤ 140737488355328) (hbase : base ≤ W.heap.size)
    (h : ∀ v' w', w'.ownsRow base e size v' (n + m) (xs ++ news) → Below base W w' → wpList P ops Q rest (a.put o.dst v') w') :
    wpList P ops Q (o :: rest) a W := by
  obtain ⟨ht, i, z, hi, hz, hsize, hby, hzs, hsz⟩ := T
  cases A with
  | none =>
    have hnil : news = [] := by
      rcases R with e | ⟨ad, e, _⟩
      · exact e
      · cases e
    subst hnil
    have hm : m = 0 := by
      have h0 : m * size = 0 := hl.symm
      rcases Nat.mul_eq_zero.1 h0 with h | h
      · exact h
      · omega
    subst hm
    refine wpList_plain hgd fun K hK => ?_
    have hrun := run_append_nilc (P := P) (w := W) base t o.type e i size ht hi v n xs hown c
    unfold Oper.wp
    simp [execOp, ho, resolve, invoke, builtin, hs, hx, hrun, Result.andThen]
    exact hK _ _ (h v W (by simpa using hown) (Below.refl _ _))
  | some ad =>
    refine wpList_append_own W hgd s x t ho base e i z size bytes ht hi hz hsize hby hzs hsz v n xs hs hown ad m c news hx hl ?_ h1 h63 hn hbase ?_
    · intro j u hu
      rcases R with e | ⟨ad', e, _, hc⟩
      · subst e; simp at hu
      · injection e with e; subst e; exact hc j u hu
    · intro v' w' hown' hgrow _
      exact h v' w' hown' ((Below.refl base W).grown hgrow hbase fun k hk => (hown.lt k hk).1)
end Go.Proofs.Ytocllmaikngoaaa
