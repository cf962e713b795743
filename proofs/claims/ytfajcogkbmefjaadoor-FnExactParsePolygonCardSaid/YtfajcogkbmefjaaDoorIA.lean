/-
  The texts NatI2, NatI4, NatI5, put together; each has its own heading below. No condition of ours.
-/
import Derived.Test.YtfajcogkbmefjaaDoorPB
import Derived.Laws.CopyOwn
/-
  The program's natural numbers: contracts (2): addTimes.
-/

namespace Go.Proofs.YtfajcogkbmefjaaDoor
open Go.RowKit
set_option linter.unusedVariables false

theorem Rd.aside {w w' : World} {B lo hi : Nat} {A : Option Addr} {xs : List Value} (h : Rd w B A xs) (ha : Aside lo hi w w') (hB : B ≤ w.heap.size) (hs : ∀ ad, A = some ad → ad.block < lo ∨ hi ≤ ad.block) : Rd w' B A xs := by
  rcases h with e | ⟨ad, e, hb, hc⟩
  · exact .inl e
  · refine .inr ⟨ad, e, hb, fun k u hu => ?_⟩
    rw [World.cell?_of_block (w := w) (w' := w') (ha.block _ (by rw [add_block]; omega) (by rw [add_block]; exact hs ad e))]
    exact hc k u hu
/-- the low limbs done, and the carry behind them -/
def AddI (mid ys : List Int) (f : Int) (done : List Int) (k : Nat) (q : Int) : Prop := done.length = k ∧ Limbs done ∧ val done + 1000000000 ^ k * q = val (mid.take k) + f * val (ys.take k)
theorem AddI.next {mid ys done : List Int} {f q d y s : Int} {k : Nat} (h : AddI mid ys f done k q) (hd : mid.getD k 0 = d) (hy : ys.getD k 0 = y) (hs : s = d + f * y + q) : AddI mid ys f (done ++ [s % 1000000000]) (k + 1) (s / 1000000000) := by
  obtain ⟨h1, h2, h3⟩ := h
  refine ⟨by rw [List.length_append, h1]; rfl, h2.append (Limbs.mk (by omega) Limbs.nil), ?_⟩
  have := add_step (P := 1000000000 ^ k) (x := d) (y := f * y) (N := s) h3 (by omega)
  rw [val_snoc, h1, val_take_step, val_take_step, hd, hy, Int.pow_succ, Int.mul_add, Int.mul_left_comm f]
  exact this
end Go.Proofs.YtfajcogkbmefjaaDoor

/-
  The program's natural numbers: contracts (4): NatToInt, NatAdd, NatSub, NatMul.
-/

namespace Go.Proofs.YtfajcogkbmefjaaDoor
open Go.RowKit
set_option linter.unusedVariables false

/-! ### rows with zeros behind -/
theorem Limbs.last {l : List Int} (h : Limbs l) : ∀ d, l.getLast? = some d → -1000000000000000000 ≤ d ∧ d ≤ 1000000000000000000 := fun d hd => by
  have := h d (List.mem_of_getLast? hd); omega
theorem limbs_of_val {l : List Int} {n : Nat} (hl : l.length = n) (hn : 0 < n) (h : Limbs (l.take (n - 1))) (h0 : 0 ≤ val l) (h1 : val l < 1000000000 ^ n) : Limbs l := by
  have e : l = l.take (n - 1) ++ [l[n - 1]] := by
    rw [← List.take_succ_eq_append_getElem, List.take_of_length_le (by omega)]
  have hv : val l = val (l.take (n - 1)) + 1000000000 ^ (n - 1) * l[n - 1] := by
    conv => lhs; rw [e]
    rw [val_snoc, List.length_take, Nat.min_eq_left (by omega)]
  have a0 := val_nonneg h
  have a1 := val_lt h
  rw [List.length_take, Nat.min_eq_left (by omega)] at a1
  have hp := pow_pos' (n - 1)
  have e2 : (1000000000 : Int) ^ n = 1000000000 ^ (n - 1) * 1000000000 := by rw [← Int.pow_succ]; congr 1; omega
  rw [e]
  refine h.append (Limbs.mk ⟨?_, ?_⟩ Limbs.nil)
  · rcases Int.lt_or_le l[n - 1] 0 with hd | hd
    · have := Int.mul_le_mul_of_nonneg_left (show l[n - 1] ≤ -1 by omega) (Int.le_of_lt hp)
      omega
    · exact hd
  · rcases Int.lt_or_le 999999999 l[n - 1] with hd | hd
    · have := Int.mul_le_mul_of_nonneg_left (show 1000000000 ≤ l[n - 1] by omega) (Int.le_of_lt hp)
      omega
    · exact hd
/-! ### NatAdd -/
/-! ### NatSub -/
end Go.Proofs.YtfajcogkbmefjaaDoor

/-
  The program's natural numbers: contracts (5): NatMul.
-/

namespace Go.Proofs.YtfajcogkbmefjaaDoor
open Go.RowKit
set_option linter.unusedVariables false

/-- the product so far -/
structure MulP (xs ys P : List Int) (L i : Nat) : Prop where
  len : P.length = L
  ok : Limbs P
  v : val P = val (xs.take i) * val ys
theorem split3 (P : List Int) (i k : Nat) : P = P.take i ++ (P.drop i).take k ++ P.drop (i + k) := by
  rw [List.append_assoc, ← List.drop_drop, List.take_append_drop, List.take_append_drop]
theorem val_split3 (P : List Int) (i k : Nat) (h : i + k ≤ P.length) : val P = val (P.take i) + 1000000000 ^ i * (val ((P.drop i).take k) + 1000000000 ^ k * val (P.drop (i + k))) := by
  conv => lhs; rw [split3 P i k, List.append_assoc, val_append, val_append]
  rw [List.length_take, List.length_take, List.length_drop, Nat.min_eq_left (by omega), Nat.min_eq_left (by omega)]
/-- the window's value is small: what stands above it is zero -/
theorem MulP.win {xs ys P : List Int} {L i : Nat} (h : MulP xs ys P L i) (hx : Limbs xs) (hy : Limbs ys) (hi : i < xs.length) (hL : L = xs.length + ys.length) : val ((P.drop i).take (ys.length + 1)) < 1000000000 ^ ys.length := by
  have e := val_split3 P i (ys.length + 1) (by rw [h.len]; omega)
  have hv := h.v
  have a0 := val_nonneg (h.ok.take i)
  have a1 := val_nonneg ((h.ok.drop i).take (ys.length + 1))
  have a2 := val_nonneg (h.ok.drop (i + (ys.length + 1)))
  have b0 := val_lt (hx.take i)
  have b1 := val_lt hy
  have c0 := val_nonneg (hx.take i)
  have c1 := val_nonneg hy
  rw [List.length_take, Nat.min_eq_left (by omega)] at b0
  generalize val ((P.drop i).take (ys.length + 1)) = m at *
  generalize val (P.drop (i + (ys.length + 1))) = t at *
  rcases Int.lt_or_le m (1000000000 ^ ys.length) with hlt | hge
  · exact hlt
  · exfalso
    have hp := pow_pos' i
    have hq := pow_pos' (ys.length + 1)
    have d0 : 0 ≤ 1000000000 ^ (ys.length + 1) * t := Int.mul_nonneg (Int.le_of_lt hq) a2
    have d1 : 1000000000 ^ i * 1000000000 ^ ys.length ≤ 1000000000 ^ i * (m + 1000000000 ^ (ys.length + 1) * t) := Int.mul_le_mul_of_nonneg_left (by omega) (Int.le_of_lt hp)
    have d2 : val (xs.take i) * val ys < 1000000000 ^ i * 1000000000 ^ ys.length := Int.lt_of_le_of_lt (Int.mul_le_mul_of_nonneg_left (Int.le_of_lt b1) c0) (Int.mul_lt_mul_of_pos_right b0 (pow_pos' ys.length))
    omega
theorem MulP.next {xs ys P out : List Int} {L i : Nat} (h : MulP xs ys P L i) (hx : Limbs xs) (hy : Limbs ys) (hi : i < xs.length) (hL : L = xs.length + ys.length)
    (ol : out.length = ys.length + 1) (ot : Limbs (out.take (ys.length + 1 - 1))) (ov : val out = val ((P.drop i).take (ys.length + 1)) + xs[i] * val ys) : MulP xs ys (P.take i ++ out ++ P.drop (i + (ys.length + 1))) L (i + 1) := by
  have hw := h.win hx hy hi hL
  have a1 := val_nonneg ((h.ok.drop i).take (ys.length + 1))
  have c1 := val_nonneg hy
  have b1 := val_lt hy
  have hd := hx xs[i] (List.getElem_mem _)
  have m0 : 0 ≤ xs[i] * val ys := Int.mul_nonneg hd.1 c1
  have m1 : xs[i] * val ys ≤ 999999999 * val ys := Int.mul_le_mul_of_nonneg_right hd.2 c1
  have e2 : (1000000000 : Int) ^ (ys.length + 1) = 1000000000 ^ ys.length * 1000000000 := Int.pow_succ ..
  have ho : Limbs out := limbs_of_val ol (by omega) ot (by omega) (by omega)
  have hl := h.len
  refine ⟨?_, ((h.ok.take i).append ho).append (h.ok.drop _), ?_⟩
  · simp only [List.length_append, List.length_take, List.length_drop]; omega
  · have e := val_split3 P i (ys.length + 1) (by rw [hl]; omega)
    rw [List.append_assoc, val_append, val_append, ol, List.length_take, Nat.min_eq_left (by omega), ov]
    have e3 := val_take_step xs i
    rw [getD_in hi] at e3
    rw [e3, Int.add_mul, ← h.v, e, Int.mul_add, Int.mul_add, Int.mul_add, Int.mul_assoc]
    omega
end Go.Proofs.YtfajcogkbmefjaaDoor
