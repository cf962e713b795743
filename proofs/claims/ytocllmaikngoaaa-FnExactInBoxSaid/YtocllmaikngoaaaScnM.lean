/-
  Lists of lists of vectors, and scenes, in memory: what is readable, what is the call's own.
-/
import Derived.Test.YtocllmaikngoaaaVecM
import Derived.Test.YtocllmaikngoaaaLB
namespace Go.Proofs.Ytocllmaikngoaaa
open Go.RowKit
set_option linter.unusedVariables false

/-- a list of vectors as a slice value: its head, its spare room, what it reads -/
structure Sl where
  a : Option Addr
  c : Nat
  vs : List V2
def Sl.v (s : Sl) : Value := .slice s.a s.vs.length s.c
/-- the slices of a list, as cells -/
def slv (ss : List Sl) : List Value := ss.map Sl.v
def cont (ss : List Sl) : List (List V2) := ss.map Sl.vs
section
variable {ss tt : List Sl} {k : Nat}
theorem slv_len (ss : List Sl) : (slv ss).length = ss.length := by simp [slv]
end
/-- a list of lists that can be read below block B -/
def RdS (w : World) (B : Nat) (A : Option Addr) (n : Nat) (ss : List Sl) : Prop :=
  ss.length = n ∧ Rd w B A (slv ss) ∧ n ≤ 2097152 ∧ ∀ s ∈ ss, RdV w B s.a s.vs.length s.vs
section
variable {w w' : World} {B B' : Nat} {A : Option Addr} {n k : Nat} {ss : List Sl}
theorem RdS.below (h : RdS w B A n ss) (hb : Below B w w') : RdS w' B A n ss := ⟨h.1, h.2.1.below hb, h.2.2.1, fun s hs => (h.2.2.2 s hs).below hb⟩
theorem RdS.wider (h : RdS w B A n ss) (hB : B ≤ B') : RdS w B' A n ss := ⟨h.1, h.2.1.wider hB, h.2.2.1, fun s hs => (h.2.2.2 s hs).wider hB⟩
theorem RdS.up (h : RdS w w.heap.size A n ss) (hb : Below w.heap.size w w') : RdS w' w'.heap.size A n ss := (h.below hb).wider hb.size
end

/-- a row of slices of the call's own, in a block from lo up to hi -/
def OwnR (w : World) (lo hi : Nat) (E : TypeId) (v : Value) (n : Nat) (ss : List Sl) : Prop := w.ownsRow lo E 1 v n (slv ss) ∧ ∀ g, v.ownBlock = some g → g < hi
section
variable {w w' : World} {lo hi lo' hi' n c B : Nat} {E : TypeId} {v : Value} {ss : List Sl} {A : Option Addr}
theorem OwnR.of (h : w'.ownsRow w.heap.size E 1 v n (slv ss)) : OwnR w' w.heap.size w'.heap.size E v n ss := ⟨h, fun g hg => (h.lt g hg).2⟩
theorem OwnR.nil (w : World) (lo hi : Nat) (E : TypeId) : OwnR w lo hi E (.slice none 0 0) 0 [] := ⟨World.ownsRow_nil _ _ _ _, fun g hg => by simp [Value.ownBlock] at hg⟩
theorem OwnR.len (h : OwnR w lo hi E v n ss) : ss.length = n := by
  have := h.1.1
  rw [slv_len] at this; omega
theorem OwnR.below (h : OwnR w lo hi E v n ss) (hb : Below B w w') (hh : hi ≤ B) : OwnR w' lo hi E v n ss := ⟨own_below h.1 hb fun g hg => Nat.lt_of_lt_of_le (h.2 g hg) hh, h.2⟩
theorem ownsRow_kept {base size : Nat} {xs : List Value} (h : w.ownsRow base E size v n xs) (hk : ∀ g, v.ownBlock = some g → w'.heap[g]? = w.heap[g]?) : w'.ownsRow base E size v n xs := by
  refine ⟨h.1, ?_⟩
  rcases h.2 with hn | ⟨g, c, cur, rfl, hbg, hg, r⟩
  · exact .inl hn
  · exact .inr ⟨g, c, cur, rfl, hbg, by rw [hk g rfl]; exact hg, r⟩
theorem OwnR.kept (h : OwnR w lo hi E v n ss) (hk : ∀ g, v.ownBlock = some g → w'.heap[g]? = w.heap[g]?) : OwnR w' lo hi E v n ss := ⟨ownsRow_kept h.1 hk, h.2⟩
theorem OwnV.kept {vs : List V2} (h : OwnV w lo hi E v n vs) (hk : ∀ g, v.ownBlock = some g → w'.heap[g]? = w.heap[g]?) : OwnV w' lo hi E v n vs := ⟨ownsRow_kept h.1 hk, h.2⟩
theorem OwnR.aside (h : OwnR w lo hi E v n ss) (ha : Aside lo' hi' w w') (hd : hi ≤ lo' ∨ hi' ≤ lo) : OwnR w' lo hi E v n ss :=
  h.kept fun g hg => ha.block g (h.1.lt g hg).2 (by have := (h.1.lt g hg).1; have := h.2 g hg; omega)
theorem OwnR.wider (h : OwnR w lo hi E v n ss) (hl : lo' ≤ lo) (hh : hi ≤ hi') : OwnR w lo' hi' E v n ss := ⟨own_lower h.1 hl, fun g hg => Nat.lt_of_lt_of_le (h.2 g hg) hh⟩
theorem OwnR.rdB (h : OwnR w lo hi E (.slice A n c) n ss) (hh : hi ≤ B) : Rd w B A (slv ss) := by
  rcases h.1.2 with ⟨hv, hn⟩ | ⟨g, c', cur, hv, hbg, hg, hnc, hcm, r⟩
  · left
    have := h.len
    rw [List.eq_nil_of_length_eq_zero (by omega : ss.length = 0)]; rfl
  · injection hv with e1 e2 e3
    subst e1
    exact .inr ⟨_, rfl, Nat.lt_of_lt_of_le (h.2 g rfl) hh, h.1.cells (g := g) rfl⟩
theorem OwnR.cap (h : OwnR w lo hi E (.slice A n c) n ss) : n ≤ c ∧ c ≤ maxLen := by
  rcases h.1.2 with ⟨hv, hn⟩ | ⟨g, c', cur, hv, hbg, hg, hnc, hcm, r⟩
  · injection hv with _ _ hv
    subst hn; subst hv
    exact ⟨Nat.le_refl _, Nat.zero_le _⟩
  · injection hv with _ _ hv
    subst hv
    exact ⟨hnc, hcm⟩
end
/-- the blocks in which the lists lie -/
def blks (v : Value) (ss : List Sl) : List Nat := v.ownBlock.toList ++ ss.filterMap fun s => s.v.ownBlock
/-- lists of vectors of the call's own, and the row of them, each in a block of its own from lo up to hi -/
def OwnSS (w : World) (lo hi : Nat) (ES EV : TypeId) (v : Value) (n : Nat) (ss : List Sl) : Prop :=
  OwnR w lo hi ES v n ss ∧ (∀ s ∈ ss, OwnV w lo hi EV s.v s.vs.length s.vs) ∧ (blks v ss).Nodup
section
variable {w w' : World} {lo hi lo' hi' n c B : Nat} {ES EV : TypeId} {v : Value} {ss : List Sl} {A : Option Addr}
theorem OwnSS.nil (w : World) (lo hi : Nat) (ES EV : TypeId) : OwnSS w lo hi ES EV (.slice none 0 0) 0 [] := ⟨OwnR.nil _ _ _ _, fun s hs => by simp at hs, by simp [blks, Value.ownBlock]⟩
theorem OwnSS.below (h : OwnSS w lo hi ES EV v n ss) (hb : Below B w w') (hh : hi ≤ B) : OwnSS w' lo hi ES EV v n ss := ⟨h.1.below hb hh, fun s hs => (h.2.1 s hs).below hb hh, h.2.2⟩
theorem OwnSS.aside (h : OwnSS w lo hi ES EV v n ss) (ha : Aside lo' hi' w w') (hd : hi ≤ lo' ∨ hi' ≤ lo) : OwnSS w' lo hi ES EV v n ss := ⟨h.1.aside ha hd, fun s hs => (h.2.1 s hs).aside ha hd, h.2.2⟩
theorem OwnSS.wider (h : OwnSS w lo hi ES EV v n ss) (hl : lo' ≤ lo) (hh : hi ≤ hi') : OwnSS w lo' hi' ES EV v n ss := ⟨h.1.wider hl hh, fun s hs => (h.2.1 s hs).wider hl hh, h.2.2⟩
theorem OwnSS.len (h : OwnSS w lo hi ES EV v n ss) : ss.length = n := h.1.len
theorem OwnSS.rdS (h : OwnSS w lo hi ES EV (.slice A n c) n ss) (hh : hi ≤ B) (hn : n ≤ 2097152) (hf : ∀ s ∈ ss, s.vs.length ≤ 1048576 ∧ wfV s.vs) : RdS w B A n ss :=
  ⟨h.len, h.1.rdB hh, hn, fun s hs => ⟨rfl, (h.2.1 s hs).rdB hh, (hf s hs).1, (hf s hs).2⟩⟩
end
end Go.Proofs.Ytocllmaikngoaaa
