/-
  Long division, as mathematics. Of no program.
-/
import Derived.Test.YtcainjgcfbgddaaNatM
namespace Go.Proofs.Ytcainjgcfbgddaa
open Go.RowKit
set_option linter.unusedVariables false

/-- the quotient's limbs so far (those from place k on), and the remainder behind them -/
structure DivS (xs done : List Int) (d r : Int) (k : Nat) : Prop where
  len : done.length = xs.length - k
  ok : Limbs done
  v : val (xs.drop k) = d * val done + r
  r0 : 0 ≤ r
  r1 : r < d
theorem DivS.start (xs : List Int) {d : Int} (hd : 0 < d) : DivS xs [] d 0 xs.length :=
  ⟨by simp, Limbs.nil, by rw [List.drop_of_length_le (Nat.le_refl _)]; simp [val], Int.le_refl _, hd⟩
theorem DivS.small {xs done : List Int} {d r : Int} {j : Nat} (h : DivS xs done d r (j + 1)) (hx : Limbs xs) (hj : j < xs.length) : 0 ≤ r * 1000000000 + xs[j] ∧ r * 1000000000 + xs[j] < d * 1000000000 := by
  have := hx xs[j] (List.getElem_mem _)
  have h0 := h.r0
  have h1 := h.r1
  omega
theorem DivS.next {xs done : List Int} {d r q r' : Int} {j : Nat} (h : DivS xs done d r (j + 1)) (hx : Limbs xs) (hj : j < xs.length) (hq : r * 1000000000 + xs[j] = d * q + r') (h0 : 0 ≤ r') (h1 : r' < d) : DivS xs (q :: done) d r' j := by
  obtain ⟨s0, s1⟩ := h.small hx hj
  have hd : 0 < d := by omega
  have hv := val_drop hj
  refine ⟨by rw [List.length_cons, h.len]; omega, Limbs.mk ⟨?_, ?_⟩ h.ok, ?_, h0, h1⟩
  · rcases Int.lt_or_le q 0 with hn | hn
    · have := Int.mul_le_mul_of_nonneg_left (show q ≤ -1 by omega) (Int.le_of_lt hd)
      omega
    · exact hn
  · rcases Int.lt_or_le 999999999 q with hn | hn
    · have := Int.mul_le_mul_of_nonneg_left (show 1000000000 ≤ q by omega) (Int.le_of_lt hd)
      omega
    · exact hn
  · have e : d * (1000000000 * val done) = 1000000000 * (d * val done) := by rw [Int.mul_left_comm]
    rw [hv, h.v, val, Int.mul_add d q, e]
    omega
theorem DivS.done {xs done : List Int} {d r : Int} (h : DivS xs done d r 0) : val done = val xs / d ∧ r = val xs % d := by
  have hv := h.v
  rw [List.drop_zero] at hv
  have h0 := h.r0
  have h1 := h.r1
  have hd : d ≠ 0 := by omega
  constructor
  · rw [hv, Int.add_comm, Int.add_mul_ediv_left _ _ hd, Int.ediv_eq_zero_of_lt h0 h1]; omega
  · rw [hv, Int.add_comm, Int.add_mul_emod_self_left, Int.emod_eq_of_lt h0 h1]
theorem DivS.q {xs done : List Int} {d r q r' : Int} {j : Nat} (h : DivS xs done d r (j + 1)) (hx : Limbs xs) (hj : j < xs.length) (hq : r * 1000000000 + xs[j] = d * q + r') (h0 : 0 ≤ r') (h1 : r' < d) : 0 ≤ q ∧ q ≤ 999999999 := (h.next hx hj hq h0 h1).ok.cons.1
/-- a row of zeros with the limbs done behind it, and the next limb -/
theorem zset (j : Nat) (q : Int) (done : List Int) : (List.replicate (j + 1) 0 ++ done).set j q = List.replicate j 0 ++ q :: done := by
  rw [List.replicate_succ', List.append_assoc, List.set_append_right _ _ (by simp)]
  simp
theorem zkeep (j : Nat) (done : List Int) : List.replicate (j + 1) (0 : Int) ++ done = List.replicate j 0 ++ 0 :: done := by
  rw [List.replicate_succ', List.append_assoc]; rfl
theorem quo_nat (a b : Nat) : ((a : Int) / (b : Int)).toNat = a / b := by rw [← Int.natCast_ediv]; rfl
theorem rem_nat (a b : Nat) : ((a : Int) % (b : Int)).toNat = a % b := by rw [← Int.natCast_emod]; rfl
theorem quoL_ok {a b : List Int} (ha : natB a = true) (hb : natB b = true) : limbs (val a / val b).toNat = quoL a b := by
  rw [quoL, ha, hb, ← natV_val ha, ← natV_val hb, quo_nat]; rfl
theorem remL_ok {a b : List Int} (ha : natB a = true) (hb : natB b = true) (h0 : b ≠ []) : limbs (val a % val b).toNat = remL a b := by
  have : b.isEmpty = false := by simpa using h0
  rw [remL, ha, hb, this, ← natV_val ha, ← natV_val hb, rem_nat]; rfl
theorem quoL_nil {a b : List Int} (h : natB a = false ∨ natB b = false ∨ b = []) : quoL a b = [] := by
  rcases h with h | h | h
  · rw [quoL, h]; rfl
  · rw [quoL, h]; simp
  · subst h
    rw [quoL]
    split
    · simp [natV, val, limbs_zero]
    · rfl
theorem remL_nil {a b : List Int} (h : natB a = false ∨ natB b = false ∨ b = []) : remL a b = [] := by
  rcases h with h | h | h
  · rw [remL, h]; rfl
  · rw [remL, h]; simp
  · subst h; rw [remL]; simp
theorem val_pos {l : List Int} (h : Canon l) (h0 : l ≠ []) : 0 < val l := by
  have h1 := val_ge_canon h (List.length_pos_iff.2 h0)
  have := pow_pos' (l.length - 1)
  omega
end Go.Proofs.Ytcainjgcfbgddaa
