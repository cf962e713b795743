/-
  The program's segments: ranges, validity.
-/
import Derived.Test.YtafhhemojdblpaaGreatSGA
import Derived.Deep.RegionHeld3
import Derived.Deep.CutRange
import Derived.Sort.AtCall
import Derived.Test.YtafhhemojdblpaaGreatSegP
import Derived.Test.YtafhhemojdblpaaGreatQR
import Derived.Test.YtafhhemojdblpaaGreatRX
import Derived.Test.YtafhhemojdblpaaGreatPI
namespace Go.Proofs.YtafhhemojdblpaaGreat
open Go.RowKit
set_option linter.unusedVariables false
def cmpQ (Z Y : RQ) : Int := cmpW Z.1.1 Z.1.2 Z.2 Y.1.1 Y.1.2 Y.2
theorem ratQ_fit {Z : RQ} (h : ratQ Z = true) : QFit Z := ratB_wf h
theorem takeTQ {P : Program} {ops : Array Oper} {Q : Exit → Act → World → Prop} {md : Region.Mode} {S : World → Prop} {i t : Nat} {oi : Oper} {v : Value} {fuel : Nat} {listed : Array Bool} {a : Act} {w : World} (hi : ops[i]? = some oi)
    (hs : Region.noSelect ops = true) (hf : Region.free md ops listed i = true) (hr : (Region.ready md ops listed).contains i = true)
    (hQ : ∀ c a w, Q (.panic c) (a.put oi.dst v) w → Q (.panic c) a w) (hd : oi.dst = some t) (hw : Region.wanted oi (yielded ops a.tmps) = true) (hy : ∀ w, S w → (execOp a.eval oi).run P w = .ok (.value v) w) (hS : S w)
    (h : wpAnyH P md ops Q S fuel (listed.setIfInBounds i true) { a with tmps := a.tmps.setIfInBounds t v } w) : wpAnyH P md ops Q S (fuel + 1) listed a w :=
  wpAnyH_take hi hs hf hr hQ (.inl ⟨hw, hy⟩) hS (by rw [hd]; exact h)
theorem skipTQ {P : Program} {ops : Array Oper} {Q : Exit → Act → World → Prop} {md : Region.Mode} {S : World → Prop} {i t : Nat} {oi : Oper} {fuel : Nat} {listed : Array Bool} {a : Act} {w : World} (hi : ops[i]? = some oi)
    (hs : Region.noSelect ops = true) (hf : Region.free md ops listed i = true) (hr : (Region.ready md ops listed).contains i = true)
    (hQ : ∀ c a w, Q (.panic c) (a.put oi.dst undef) w → Q (.panic c) a w) (hd : oi.dst = some t) (hw : Region.wanted oi (yielded ops a.tmps) = false) (hS : S w)
    (h : wpAnyH P md ops Q S fuel (listed.setIfInBounds i true) { a with tmps := a.tmps.setIfInBounds t undef } w) : wpAnyH P md ops Q S (fuel + 1) listed a w :=
  wpAnyH_take hi hs hf hr hQ (.inr ⟨hw, rfl⟩) hS (by rw [hd]; exact h)
theorem skipCQ {P : Program} {ops : Array Oper} {Q : Exit → Act → World → Prop} {md : Region.Mode} {S : World → Prop} {i t : Nat} {oi : Oper} {fuel : Nat} {listed : Array Bool} {a : Act} {w : World} (hr : Region.ready md ops listed = [i]) (hi : ops[i]? = some oi) (hd : oi.dst = some t) (hw : Region.wanted oi (yielded ops a.tmps) = false) (hS : S w)
    (h : wpAnyH P md ops Q S fuel (listed.setIfInBounds i true) { a with tmps := a.tmps.setIfInBounds t undef } w) : wpAnyH P md ops Q S (fuel + 1) listed a w := by
  refine wpAnyH_ready hr (by simp) (AllReadyH.cons hi (fun K hK => ?_) AllReadyH.nil)
  rw [if_neg (by rw [hw]; simp), hd]
  exact hK.out _ _ hS (fun _ => h)
/-- the points of a segment in twelve cells -/
def GIn (w : World) (B : Nat) (v0 v1 v2 v3 v4 v5 v6 v7 v8 v9 v10 v11 : Value) (S : PQ × PQ) : Prop := PIn w B v0 v1 v2 v3 v4 v5 S.1 ∧ PIn w B v6 v7 v8 v9 v10 v11 S.2
def validG (S : PQ × PQ) : Prop := (ratQ S.1.1 = true ∧ ratQ S.1.2 = true) ∧ ratQ S.2.1 = true ∧ ratQ S.2.2 = true
section
variable {w w' : World} {B B' : Nat} {v0 v1 v2 v3 v4 v5 v6 v7 v8 v9 v10 v11 : Value} {S : PQ × PQ}
theorem GIn.below (h : GIn w B v0 v1 v2 v3 v4 v5 v6 v7 v8 v9 v10 v11 S) (hb : Below B w w') : GIn w' B v0 v1 v2 v3 v4 v5 v6 v7 v8 v9 v10 v11 S := ⟨h.1.below hb, h.2.below hb⟩
theorem GIn.wider (h : GIn w B v0 v1 v2 v3 v4 v5 v6 v7 v8 v9 v10 v11 S) (hB : B ≤ B') : GIn w B' v0 v1 v2 v3 v4 v5 v6 v7 v8 v9 v10 v11 S := ⟨h.1.wider hB, h.2.wider hB⟩
theorem GIn.fst (h : GIn w B v0 v1 v2 v3 v4 v5 v6 v7 v8 v9 v10 v11 S) : PIn w B v0 v1 v2 v3 v4 v5 S.1 := h.1
theorem GIn.snd (h : GIn w B v0 v1 v2 v3 v4 v5 v6 v7 v8 v9 v10 v11 S) : PIn w B v6 v7 v8 v9 v10 v11 S.2 := h.2
end
theorem Box.cells12 {w : World} {g : Nat} {E : TypeId} {a b c d e f a' b' c' d' e' f' : Value} (h : Box w g E #[a, b, c, d, e, f, a', b', c', d', e', f']) : w.cell? ⟨g, 0, none⟩ = some a ∧ w.cell? ⟨g, 1, none⟩ = some b ∧ w.cell? ⟨g, 2, none⟩ = some c ∧ w.cell? ⟨g, 3, none⟩ = some d ∧ w.cell? ⟨g, 4, none⟩ = some e ∧ w.cell? ⟨g, 5, none⟩ = some f ∧ w.cell? ⟨g, 6, none⟩ = some a' ∧ w.cell? ⟨g, 7, none⟩ = some b' ∧ w.cell? ⟨g, 8, none⟩ = some c' ∧ w.cell? ⟨g, 9, none⟩ = some d' ∧ w.cell? ⟨g, 10, none⟩ = some e' ∧ w.cell? ⟨g, 11, none⟩ = some f' :=
  ⟨h.cell 0, h.cell 1, h.cell 2, h.cell 3, h.cell 4, h.cell 5, h.cell 6, h.cell 7, h.cell 8, h.cell 9, h.cell 10, h.cell 11⟩
end Go.Proofs.YtafhhemojdblpaaGreat
