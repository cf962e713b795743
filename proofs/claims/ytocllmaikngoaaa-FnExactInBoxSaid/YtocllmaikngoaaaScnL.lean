/-
  The laws' helpers for lists of lists of vectors: szVecS, szVecSS: contracts.
-/
import Derived.Test.YtocllmaikngoaaaScnM
namespace Go.Proofs.Ytocllmaikngoaaa
open Go.RowKit
set_option linter.unusedVariables false
/-- how many vectors lists hold in all -/
def totN (L : List (List V2)) : Nat := (L.map List.length).sum
theorem totN_mem {L : List (List V2)} {l : List V2} (h : l ∈ L) : l.length ≤ totN L := by
  induction L with
  | nil => simp at h
  | cons a L ih =>
    have e : totN (a :: L) = a.length + totN L := by simp [totN]
    rcases List.mem_cons.1 h with rfl | h
    · omega
    · have := ih h; omega
/-- a list of lists that came in -/
def IsSS (w : World) (a : Option Addr) (len cap : Nat) (ss : List Sl) : Prop :=
  ss.length = len ∧ len ≤ cap ∧ cap ≤ maxLen ∧ Rd w w.heap.size a (slv ss) ∧ ∀ s ∈ ss, IsVecs w s.a s.vs.length s.c s.vs
theorem IsVecs.cap {w : World} {a : Option Addr} {len cap : Nat} {zs : List V2} (h : IsVecs w a len cap zs) : len ≤ cap ∧ cap ≤ maxLen := by
  rcases h with ⟨_, rfl, rfl, _⟩ | ⟨x, _, h1, h2, _⟩
  · exact ⟨Nat.le_refl _, Nat.zero_le _⟩
  · exact ⟨h1, h2⟩
theorem IsSS.rdS {w : World} {a : Option Addr} {len cap : Nat} {ss : List Sl} (h : IsSS w a len cap ss) (hl : len + totN (cont ss) ≤ 1048576) : RdS w w.heap.size a len ss :=
  ⟨h.1, h.2.2.2.1, by omega, fun s hs => (h.2.2.2.2 s hs).rdV (by
    have := totN_mem (L := cont ss) (l := s.vs) (List.mem_map.2 ⟨s, hs, rfl⟩)
    omega)⟩
/-! toVecSS -/
/-! eqVecSS -/
end Go.Proofs.Ytocllmaikngoaaa
