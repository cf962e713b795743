/-
  Lists of vectors in memory: two cells an element. What is readable, what is the call's own.
-/
import Derived.Test.YtafhhemojdblpabOwn
import Derived.Test.YtafhhemojdblpabHulP
namespace Go.Proofs.Ytafhhemojdblpab
open Go.RowKit
set_option linter.unusedVariables false

/-- the vectors of a list, as cells -/
def fl (vs : List V2) : List Value := vs.flatMap fun v => [.int .i64 v.1, .int .i64 v.2]
theorem fl_cons (v : V2) (vs : List V2) : fl (v :: vs) = .int .i64 v.1 :: .int .i64 v.2 :: fl vs := rfl
theorem fl_len (vs : List V2) : (fl vs).length = vs.length * 2 := by
  induction vs with
  | nil => rfl
  | cons v vs ih => rw [fl_cons]; simp only [List.length_cons, ih]; omega
def wfV (vs : List V2) : Prop := ∀ v ∈ vs, (Lit.int .i64 v.1).wf = true ∧ (Lit.int .i64 v.2).wf = true
/-- a list of vectors that can be read below block B -/
def RdV (w : World) (B : Nat) (A : Option Addr) (n : Nat) (vs : List V2) : Prop := vs.length = n ∧ Rd w B A (fl vs) ∧ n ≤ 1048576 ∧ wfV vs
theorem RdV.below {w w' : World} {B : Nat} {A : Option Addr} {n : Nat} {vs : List V2} (h : RdV w B A n vs) (hb : Below B w w') : RdV w' B A n vs := ⟨h.1, h.2.1.below hb, h.2.2⟩
theorem RdV.wider {w : World} {B B' : Nat} {A : Option Addr} {n : Nat} {vs : List V2} (h : RdV w B A n vs) (hB : B ≤ B') : RdV w B' A n vs := ⟨h.1, h.2.1.wider hB, h.2.2⟩
theorem RdV.up {w w' : World} {A : Option Addr} {n : Nat} {vs : List V2} (h : RdV w w.heap.size A n vs) (hb : Below w.heap.size w w') : RdV w' w'.heap.size A n vs := (h.below hb).wider hb.size
/-- a list of vectors of the call's own, in a block from lo up to hi -/
def OwnV (w : World) (lo hi : Nat) (E : TypeId) (v : Value) (n : Nat) (vs : List V2) : Prop := w.ownsRow lo E 2 v n (fl vs) ∧ ∀ g, v.ownBlock = some g → g < hi
section
variable {w w' : World} {lo hi lo' hi' n c B : Nat} {E : TypeId} {v : Value} {vs : List V2} {A : Option Addr}
theorem OwnV.of (h : w'.ownsRow w.heap.size E 2 v n (fl vs)) : OwnV w' w.heap.size w'.heap.size E v n vs := ⟨h, fun g hg => (h.lt g hg).2⟩
theorem OwnV.nil (w : World) (lo hi : Nat) (E : TypeId) : OwnV w lo hi E (.slice none 0 0) 0 [] := ⟨World.ownsRow_nil _ _ _ _, fun g hg => by simp [Value.ownBlock] at hg⟩
theorem OwnV.len (h : OwnV w lo hi E v n vs) : vs.length = n := by
  have := h.1.1
  rw [fl_len] at this; omega
theorem OwnV.below (h : OwnV w lo hi E v n vs) (hb : Below B w w') (hh : hi ≤ B) : OwnV w' lo hi E v n vs := ⟨own_below h.1 hb fun g hg => Nat.lt_of_lt_of_le (h.2 g hg) hh, h.2⟩
end
end Go.Proofs.Ytafhhemojdblpab
