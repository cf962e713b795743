/-
  Small words for slices in memory: what is readable through a slice value, and how it is kept while a call makes memory of its own. Over any program.
-/
import Derived.Test.YtafhhemojdblpabRows
import Derived.WalkKit
import Derived.WalkSpells
import Derived.WalkLawsBesides
import Derived.ProofKit
import Derived.Deep.RegionHeld3
import Derived.Deep.QuietTactic
import Derived.BigQuiet
import Derived.Lib.SmallJoins
namespace Go.Proofs.Ytafhhemojdblpab
open Go.RowKit

theorem hide {p : Prop} (h : p) : Hid p := h
theorem add_block (a : Addr) (k : Nat) : (a.add k).block = a.block := by unfold Addr.add; split <;> rfl

/-- The slice value with head A reads, below block B, as the cells xs. -/
def Rd (w : World) (B : Nat) (A : Option Addr) (xs : List Value) : Prop :=
  xs = [] ∨ ∃ ad, A = some ad ∧ ad.block < B ∧ ∀ k u, xs[k]? = some u → w.cell? (ad.add k) = some u

section
variable {w w' : World} {B B' : Nat} {A : Option Addr} {xs : List Value}
theorem Rd.nil (w : World) (B : Nat) (A : Option Addr) : Rd w B A [] := .inl rfl
theorem Rd.at_ (h : Rd w B A xs) {k : Nat} (hk : k < xs.length) : ∃ ad, A = some ad ∧ ad.block < B ∧ w.cell? (ad.add k) = some xs[k] := by
  rcases h with rfl | ⟨ad, e, hb, hc⟩
  · exact absurd hk (Nat.not_lt_zero _)
  · exact ⟨ad, e, hb, hc k _ (List.getElem?_eq_getElem hk)⟩
theorem Rd.same (h : Rd w B A xs) (hc : ∀ p : Addr, p.block < B → w'.cell? p = w.cell? p) : Rd w' B A xs := by
  rcases h with e | ⟨ad, e, hb, hr⟩
  · exact .inl e
  · exact .inr ⟨ad, e, hb, fun k u hu => (hc _ (by rw [add_block]; exact hb)).trans (hr k u hu)⟩
theorem Rd.wider (h : Rd w B A xs) (hB : B ≤ B') : Rd w B' A xs := by
  rcases h with e | ⟨ad, e, hb, hr⟩
  · exact .inl e
  · exact .inr ⟨ad, e, Nat.lt_of_lt_of_le hb hB, hr⟩
theorem Rd.below (h : Rd w B A xs) (hb : Below B w w') : Rd w' B A xs := h.same fun _ hp => hb.cell hp
end

section
variable {w w' : World} {base base' B : Nat} {e : TypeId} {size n : Nat} {v : Value} {xs : List Value}
theorem own_below (h : w.ownsRow base e size v n xs) (hb : Below B w w') (hB : ∀ g, v.ownBlock = some g → g < B) : w'.ownsRow base e size v n xs := by
  refine ⟨h.1, ?_⟩
  rcases h.2 with hn | ⟨g, c, cur, rfl, hbg, hg, r⟩
  · exact .inl hn
  · exact .inr ⟨g, c, cur, rfl, hbg, by rw [hb.block g (hB g (by simp [Value.ownBlock]))]; exact hg, r⟩
end
/-- the integers of a list, as cells -/
def iv (xs : List Int) : List Value := xs.map (Value.int .i64)
theorem iv_len (xs : List Int) : (iv xs).length = xs.length := by simp [iv]
theorem iv_at {xs : List Int} {k : Nat} (h : k < xs.length) : (iv xs)[k]'(by rw [iv_len]; exact h) = .int .i64 xs[k] := by simp [iv]
theorem Rd.int {w : World} {B : Nat} {A : Option Addr} {xs : List Int} (h : Rd w B A (iv xs)) {k : Nat} (hk : k < xs.length) : ∃ ad, A = some ad ∧ ad.block < B ∧ w.cell? (ad.add k) = some (.int .i64 xs[k]) := by
  obtain ⟨ad, h1, h2, h3⟩ := h.at_ (k := k) (by rw [iv_len]; exact hk)
  exact ⟨ad, h1, h2, by rw [h3, iv_at hk]⟩

theorem ret_bool {a b : Bool} (h : a = b) : Ending.returned (.bool a) = .returned (.bool b) := by rw [h]
theorem ret_int {k : IntKind} {a b : Int} (h : a = b) : Ending.returned (.int k a) = .returned (.int k b) := by rw [h]
end Go.Proofs.Ytafhhemojdblpab
