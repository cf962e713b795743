/-
  Operations on fractions whose value is known: the program's contracts.
-/
import Derived.Test.YtnbaookdeijhhaaGreatDoorPtQ
import Derived.Test.YtnbaookdeijhhaaGreatDoorRatN
import Derived.Test.YtnbaookdeijhhaaGreatDoorRatS
import Derived.Test.YtnbaookdeijhhaaGreatDoorRatU1
namespace Go.Proofs.YtnbaookdeijhhaaGreatDoor
open Go.RowKit
set_option linter.unusedVariables false
def minQ (Z Y : RQ) : RQ := minR Z.1.1 Z.1.2 Z.2 Y.1.1 Y.1.2 Y.2
def maxQ (Z Y : RQ) : RQ := maxR Z.1.1 Z.1.2 Z.2 Y.1.1 Y.1.2 Y.2
def cmpQ (Z Y : RQ) : Int := cmpR Z.1.1 Z.1.2 Z.2 Y.1.1 Y.1.2 Y.2
def fmtQ (Z : RQ) : ByteArray := fmtR Z.1.1 Z.1.2 Z.2
theorem fmtR_szX {s : Bool} {xs ds : List Int} (h : ratB s xs ds = true) : (fmtR s xs ds).size ≤ 3000 := by
  have h1 := fmtZ_sizeR (ratB_big h)
  have h2 := fmtB_sizeR (ratB_den h)
  by_cases h3 : ds = [1]
  · rw [fmtR_one h h3]; omega
  · rw [fmtR_two h h3, ByteArray.size_append, ByteArray.size_append]
    have : ByteArray.size ⟨#[47]⟩ = 1 := rfl
    omega
theorem is_addQ (w : World) (B : Nat) (hB : B ≤ w.heap.size) {v0 v1 v2 : Value} {Z : RQ} (h : QIn w B v0 v1 v2 Z) {u0 u1 u2 : Value} {Y : RQ} (h' : QIn w B u0 u1 u2 Y) {X : RQ} (hE : addQ Z Y = X) :
    Calls Tryz.prog 12 #[.agg #[v0, v1, v2], .agg #[u0, u1, u2]] w fun e w' => QRes 3 w w' e X := by
  subst hE
  obtain ⟨A, n, c, D, m, k, rfl, rfl, rfl, r1, r2, c1, c2⟩ := h
  obtain ⟨A', n', c', D', m', k', rfl, rfl, rfl, r1', r2', c1', c2'⟩ := h'
  exact (impl_RatAdd w B hB Z.1.1 A n c Z.1.2 r1 D m k Z.2 r2 Y.1.1 A' n' c' Y.1.2 r1' D' m' k' Y.2 r2').mono fun e w' h => QRes.of h
theorem is_subQ (w : World) (B : Nat) (hB : B ≤ w.heap.size) {v0 v1 v2 : Value} {Z : RQ} (h : QIn w B v0 v1 v2 Z) {u0 u1 u2 : Value} {Y : RQ} (h' : QIn w B u0 u1 u2 Y) {X : RQ} (hE : subQ Z Y = X) :
    Calls Tryz.prog 11 #[.agg #[v0, v1, v2], .agg #[u0, u1, u2]] w fun e w' => QRes 3 w w' e X := by
  subst hE
  obtain ⟨A, n, c, D, m, k, rfl, rfl, rfl, r1, r2, c1, c2⟩ := h
  obtain ⟨A', n', c', D', m', k', rfl, rfl, rfl, r1', r2', c1', c2'⟩ := h'
  exact (impl_RatSub w B hB Z.1.1 A n c Z.1.2 r1 D m k Z.2 r2 Y.1.1 A' n' c' Y.1.2 r1' D' m' k' Y.2 r2').mono fun e w' h => QRes.of h
theorem is_mulQ (w : World) (B : Nat) (hB : B ≤ w.heap.size) {v0 v1 v2 : Value} {Z : RQ} (h : QIn w B v0 v1 v2 Z) {u0 u1 u2 : Value} {Y : RQ} (h' : QIn w B u0 u1 u2 Y) {X : RQ} (hE : mulQ Z Y = X) :
    Calls Tryz.prog 17 #[.agg #[v0, v1, v2], .agg #[u0, u1, u2]] w fun e w' => QRes 3 w w' e X := by
  subst hE
  obtain ⟨A, n, c, D, m, k, rfl, rfl, rfl, r1, r2, c1, c2⟩ := h
  obtain ⟨A', n', c', D', m', k', rfl, rfl, rfl, r1', r2', c1', c2'⟩ := h'
  exact (impl_RatMul w B hB Z.1.1 A n c Z.1.2 r1 D m k Z.2 r2 Y.1.1 A' n' c' Y.1.2 r1' D' m' k' Y.2 r2').mono fun e w' h => QRes.of h
theorem is_divQ (w : World) (B : Nat) (hB : B ≤ w.heap.size) {v0 v1 v2 : Value} {Z : RQ} (h : QIn w B v0 v1 v2 Z) {u0 u1 u2 : Value} {Y : RQ} (h' : QIn w B u0 u1 u2 Y) {X : RQ} (hE : divQ Z Y = X) :
    Calls Tryz.prog 18 #[.agg #[v0, v1, v2], .agg #[u0, u1, u2]] w fun e w' => QRes 3 w w' e X := by
  subst hE
  obtain ⟨A, n, c, D, m, k, rfl, rfl, rfl, r1, r2, c1, c2⟩ := h
  obtain ⟨A', n', c', D', m', k', rfl, rfl, rfl, r1', r2', c1', c2'⟩ := h'
  exact (impl_RatDiv w B hB Z.1.1 A n c Z.1.2 r1 D m k Z.2 r2 Y.1.1 A' n' c' Y.1.2 r1' D' m' k' Y.2 r2').mono fun e w' h => QRes.of h
theorem is_minQ (w : World) (B : Nat) (hB : B ≤ w.heap.size) {v0 v1 v2 : Value} {Z : RQ} (h : QIn w B v0 v1 v2 Z) {u0 u1 u2 : Value} {Y : RQ} (h' : QIn w B u0 u1 u2 Y) {X : RQ} (hE : minQ Z Y = X) :
    Calls Tryz.prog 15 #[.agg #[v0, v1, v2], .agg #[u0, u1, u2]] w fun e w' => QRes 3 w w' e X := by
  subst hE
  obtain ⟨A, n, c, D, m, k, rfl, rfl, rfl, r1, r2, c1, c2⟩ := h
  obtain ⟨A', n', c', D', m', k', rfl, rfl, rfl, r1', r2', c1', c2'⟩ := h'
  exact (impl_RatMin w B hB Z.1.1 A n c Z.1.2 r1 D m k Z.2 r2 Y.1.1 A' n' c' Y.1.2 r1' D' m' k' Y.2 r2').mono fun e w' h => QRes.of h
theorem is_maxQ (w : World) (B : Nat) (hB : B ≤ w.heap.size) {v0 v1 v2 : Value} {Z : RQ} (h : QIn w B v0 v1 v2 Z) {u0 u1 u2 : Value} {Y : RQ} (h' : QIn w B u0 u1 u2 Y) {X : RQ} (hE : maxQ Z Y = X) :
    Calls Tryz.prog 16 #[.agg #[v0, v1, v2], .agg #[u0, u1, u2]] w fun e w' => QRes 3 w w' e X := by
  subst hE
  obtain ⟨A, n, c, D, m, k, rfl, rfl, rfl, r1, r2, c1, c2⟩ := h
  obtain ⟨A', n', c', D', m', k', rfl, rfl, rfl, r1', r2', c1', c2'⟩ := h'
  exact (impl_RatMax w B hB Z.1.1 A n c Z.1.2 r1 D m k Z.2 r2 Y.1.1 A' n' c' Y.1.2 r1' D' m' k' Y.2 r2').mono fun e w' h => QRes.of h
theorem is_sameQ (w : World) (B : Nat) (hB : B ≤ w.heap.size) {v0 v1 v2 : Value} {Z : RQ} (h : QIn w B v0 v1 v2 Z) {u0 u1 u2 : Value} (h' : QIn w B u0 u1 u2 Z) :
    Calls Tryz.prog 10 #[.agg #[v0, v1, v2], .agg #[u0, u1, u2]] w fun e w' => e = .returned (.bool true) ∧ Below w.heap.size w w' := by
  have hc := impl_sameQ w B hB h h'
  rw [show sameQ Z Z = true from sameR_self Z] at hc
  exact hc
theorem is_cmpQ (w : World) (B : Nat) (hB : B ≤ w.heap.size) {v0 v1 v2 : Value} {Z : RQ} (h : QIn w B v0 v1 v2 Z) {u0 u1 u2 : Value} {Y : RQ} (h' : QIn w B u0 u1 u2 Y) {X : Int} (hE : cmpQ Z Y = X) :
    Calls Tryz.prog 13 #[.agg #[v0, v1, v2], .agg #[u0, u1, u2]] w fun e w' => e = .returned (.int .i64 X) ∧ Below w.heap.size w w' := by
  subst hE
  obtain ⟨A, n, c, D, m, k, rfl, rfl, rfl, r1, r2, c1, c2⟩ := h
  obtain ⟨A', n', c', D', m', k', rfl, rfl, rfl, r1', r2', c1', c2'⟩ := h'
  exact impl_RatCmp w B hB Z.1.1 A n c Z.1.2 r1 D m k Z.2 r2 Y.1.1 A' n' c' Y.1.2 r1' D' m' k' Y.2 r2'
theorem is_signQ (w : World) (B : Nat) (hB : B ≤ w.heap.size) {v0 v1 v2 : Value} {Z : RQ} (h : QIn w B v0 v1 v2 Z) {X : Int} (hE : signQ Z = X) :
    Calls Tryz.prog 14 #[.agg #[v0, v1, v2]] w fun e w' => e = .returned (.int .i64 X) ∧ Below w.heap.size w w' := by
  subst hE
  exact impl_signQ w B hB h
theorem is_fmtQ (w : World) (B : Nat) (hB : B ≤ w.heap.size) {v0 v1 v2 : Value} {Z : RQ} (h : QIn w B v0 v1 v2 Z) (hPT : PowTab w) :
    Calls Tryz.prog 9 #[.agg #[v0, v1, v2]] w fun e w' => e = .returned (.string (fmtQ Z)) ∧ Below w.heap.size w w' := by
  obtain ⟨A, n, c, D, m, k, rfl, rfl, rfl, r1, r2, c1, c2⟩ := h
  exact impl_FormatRat w B hB Z.1.1 A n c Z.1.2 r1 D m k Z.2 r2 hPT
theorem is_parQ (w : World) (B : Nat) (hB : B ≤ w.heap.size) {Z : RQ} (hZ : ratB Z.1.1 Z.1.2 Z.2 = true) (hPT : PowTab w) (ml : Int) (hML : w.cell? ⟨0, 0, none⟩ = some (.int .i64 ml)) (hg0 : 0 < w.heap.size) :
    Calls Tryz.prog 8 #[.string (fmtQ Z)] w fun e w' => ∃ v0 v1 v2, e = .returned (.tuple #[.agg #[v0, v1, v2], .bool true]) ∧ QOwn w' w.heap.size w'.heap.size 3 v0 v1 v2 Z ∧ Below w.heap.size w w' := by
  obtain ⟨h1, h2⟩ := parse_fmtR hZ
  have hsz : (fmtQ Z).size ≤ 1048576 := by have h3 := fmtR_szX hZ; show (fmtR Z.1.1 Z.1.2 Z.2).size ≤ _; omega
  refine (impl_ParseRat w B hB (fmtQ Z) hsz hPT ml hML hg0).mono fun e w' h => ?_
  obtain ⟨v, d, rfl, hp, hb⟩ := h
  unfold fmtQ at hp ⊢
  rw [h1] at hp ⊢
  rw [h2]
  exact ⟨_, v, d, rfl, ⟨rfl, hp⟩, hb⟩
end Go.Proofs.YtnbaookdeijhhaaGreatDoor
