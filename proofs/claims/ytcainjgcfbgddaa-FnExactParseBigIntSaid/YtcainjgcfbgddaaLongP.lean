/-
  Long division by windows, as mathematics. Of no program.
-/
import Derived.Test.YtcainjgcfbgddaaNatI7
namespace Go.Proofs.Ytcainjgcfbgddaa
open Go.RowKit
set_option linter.unusedVariables false

/-- how far the windows have come: k of them are left -/
structure LongS (dv : List Int) (D : Int) (T k : Nat) (rest Q : List Int) : Prop where
  rl : rest.length = dv.length - k
  ro : Limbs rest
  ql : Q.length = T - k
  qo : Limbs Q
  v : val (dv.drop k) = D * val Q + val rest
  lt : val rest < D
theorem small_take {l : List Int} {m : Nat} (h : Limbs l) (hv : val l < 1000000000 ^ m) (hm : m ≤ l.length) : val (l.take m) = val l ∧ val (l.drop m) = 0 := by
  have e : val l = val (l.take m) + 1000000000 ^ m * val (l.drop m) := by
    conv => lhs; rw [← List.take_append_drop m l, val_append, List.length_take, Nat.min_eq_left hm]
  have a0 := val_nonneg (h.take m)
  have a1 := val_nonneg (h.drop m)
  have hp := pow_pos' m
  have hz : val (l.drop m) = 0 := by
    rcases Int.lt_or_le 0 (val (l.drop m)) with h' | h'
    · have := Int.mul_le_mul_of_nonneg_left (show 1 ≤ val (l.drop m) by omega) (Int.le_of_lt hp)
      omega
    · omega
  rw [hz, Int.mul_zero] at e
  exact ⟨by omega, hz⟩
/-- the window at place j -/
theorem LongS.win {dv rest Q : List Int} {D : Int} {T j m : Nat} (h : LongS dv D T (j + 1) rest Q) (hdv : Limbs dv) (hj : j < dv.length) (hD : D < 1000000000 ^ m) (hm : m ≤ rest.length) :
    val (dv[j] :: rest.take m) = dv[j] + 1000000000 * val rest ∧ Limbs (dv[j] :: rest.take m) ∧ val (dv[j] :: rest.take m) < 1000000000 * D := by
  obtain ⟨e1, e2⟩ := small_take h.ro (Int.lt_trans h.lt hD) hm
  have hd := hdv dv[j] (List.getElem_mem _)
  have hl := h.lt
  refine ⟨by rw [val, e1], Limbs.mk hd (h.ro.take m), ?_⟩
  rw [val, e1]
  omega
theorem LongS.next {dv rest Q out : List Int} {D : Int} {T j m : Nat} (h : LongS dv D T (j + 1) rest Q) (hdv : Limbs dv) (hj : j < dv.length) (hD : D < 1000000000 ^ m) (hm : m ≤ rest.length) (hjT : j < T) (hD0 : 0 < D)
    (ol : out.length = m + 1) (oo : Limbs out) (ov : val out = val (dv[j] :: rest.take m) % D) : LongS dv D T j (out ++ rest.drop m) (val (dv[j] :: rest.take m) / D :: Q) := by
  obtain ⟨w1, w2, w3⟩ := h.win hdv hj hD hm
  obtain ⟨e1, e2⟩ := small_take h.ro (Int.lt_trans h.lt hD) hm
  have hmod := Int.mul_ediv_add_emod (val (dv[j] :: rest.take m)) D
  have hm1 := Int.emod_lt_of_pos (val (dv[j] :: rest.take m)) hD0
  have hq0 : 0 ≤ val (dv[j] :: rest.take m) / D := Int.ediv_nonneg (val_nonneg w2) (Int.le_of_lt hD0)
  have hq1 : val (dv[j] :: rest.take m) / D < 1000000000 := Int.ediv_lt_of_lt_mul hD0 w3
  have hv := val_drop hj
  have hrv : val (out ++ rest.drop m) = val out := by rw [val_append, e2]; simp
  have hrl := h.rl
  refine ⟨?_, oo.append (h.ro.drop m), ?_, Limbs.mk ⟨hq0, by omega⟩ h.qo, ?_, ?_⟩
  · rw [List.length_append, ol, List.length_drop, hrl]; omega
  · rw [List.length_cons, h.ql]; omega
  · rw [hrv, hv, h.v, val]
    generalize hq : val (dv[j] :: rest.take m) / D = q at *
    have e : D * (1000000000 * val Q) = 1000000000 * (D * val Q) := by rw [Int.mul_left_comm]
    rw [Int.mul_add D q, e]
    omega
  · rw [hrv]; omega
/-- the divisor, made great: its limbs, as many as before -/
theorem scaled_div {ys : List Int} {m : Nat} (hc : Canon ys) (hl : ys.length = m) (hm : 0 < m) : 1 ≤ 1000000000 / (ys[m - 1] + 1) ∧ 1000000000 / (ys[m - 1] + 1) ≤ 500000000 ∧ 1000000000 / (ys[m - 1] + 1) * val ys < 1000000000 ^ m ∧ 1000000000 / (ys[m - 1] + 1) * 1000000000 ^ (m - 1) ≤ 1000000000 / (ys[m - 1] + 1) * val ys := by
  have ht := top_pos hc hl hm
  have e2 := val_top1 hl hm
  have a1 := val_lt (hc.1.take (m - 1))
  have a2 := val_nonneg (hc.1.take (m - 1))
  rw [List.length_take, Nat.min_eq_left (by omega)] at a1
  have hge := val_ge_canon hc (by omega)
  rw [hl] at hge
  generalize ys[m - 1] = t at *
  have s1 : 1 ≤ 1000000000 / (t + 1) := (Int.le_ediv_iff_mul_le (by omega)).2 (by omega)
  have s3 : 1000000000 / (t + 1) * (t + 1) ≤ 1000000000 := (Int.le_ediv_iff_mul_le (by omega)).1 (Int.le_refl _)
  have s2 : 1000000000 / (t + 1) ≤ 500000000 := by
    have : 1000000000 / (t + 1) * 2 ≤ 1000000000 / (t + 1) * (t + 1) := Int.mul_le_mul_of_nonneg_left (by omega) (by omega)
    omega
  generalize 1000000000 / (t + 1) = s at *
  have hp := pow_pos' (m - 1)
  have e3 : (1000000000 : Int) ^ m = 1000000000 ^ (m - 1) * 1000000000 := by rw [← Int.pow_succ]; congr 1; omega
  refine ⟨s1, s2, ?_, Int.mul_le_mul_of_nonneg_left hge (by omega)⟩
  have b1 : s * val ys < s * (1000000000 ^ (m - 1) * (t + 1)) := Int.mul_lt_mul_of_pos_left (by rw [Int.mul_add, Int.mul_one]; omega) (by omega)
  have b2 : s * (1000000000 ^ (m - 1) * (t + 1)) = 1000000000 ^ (m - 1) * (s * (t + 1)) := Int.mul_left_comm ..
  have b3 : 1000000000 ^ (m - 1) * (s * (t + 1)) ≤ 1000000000 ^ (m - 1) * 1000000000 := Int.mul_le_mul_of_nonneg_left s3 (Int.le_of_lt hp)
  omega
theorem limbs_len_eq {n k : Nat} (h1 : n < 1000000000 ^ k) (h2 : 1000000000 ^ (k - 1) ≤ n) (hk : 0 < k) : (limbs n).length = k := by
  have a := limbs_len.2 h1
  have b : ¬ (limbs n).length ≤ k - 1 := fun h => by have := limbs_len.1 h; omega
  omega
/-- the first remainder is small -/
theorem long_start {dv xs ys : List Int} {n m : Nat} {s : Int} (hx : Limbs xs) (hxn : xs.length = n) (hm : 0 < m) (hmn : m ≤ n) (hdl : dv.length = n + 1) (hdo : Limbs dv) (hdv : val dv = s * val xs) (hs : 1 ≤ s) (hy : s * 1000000000 ^ (m - 1) ≤ s * val ys) : LongS dv (s * val ys) (n - m + 1) (n - m + 1) (dv.drop (n - m + 1)) [] := by
  refine ⟨by rw [List.length_drop], hdo.drop _, by simp, Limbs.nil, by simp [val], ?_⟩
  have e : val dv = val (dv.take (n - m + 1)) + 1000000000 ^ (n - m + 1) * val (dv.drop (n - m + 1)) := by
    conv => lhs; rw [← List.take_append_drop (n - m + 1) dv, val_append, List.length_take, Nat.min_eq_left (by omega)]
  have a0 := val_nonneg (hdo.take (n - m + 1))
  have a1 := val_lt hx
  rw [hxn] at a1
  have b1 : s * val xs < s * 1000000000 ^ n := Int.mul_lt_mul_of_pos_left a1 (by omega)
  have e3 : (1000000000 : Int) ^ n = 1000000000 ^ (n - m + 1) * 1000000000 ^ (m - 1) := by rw [← Int.pow_add]; congr 1; omega
  rw [e3, Int.mul_left_comm] at b1
  have := Int.lt_of_mul_lt_mul_left (show 1000000000 ^ (n - m + 1) * val (dv.drop (n - m + 1)) < 1000000000 ^ (n - m + 1) * (s * 1000000000 ^ (m - 1)) by omega) (Int.le_of_lt (pow_pos' _))
  omega
/-- what the windows leave -/
theorem long_end {dv rest Q : List Int} {X Y s : Int} {T : Nat} (h : LongS dv (s * Y) T 0 rest Q) (hdv : val dv = s * X) (hs : 1 ≤ s) (hY : 0 < Y) : val Q = X / Y ∧ val rest / s = X % Y := by
  have hv := h.v
  rw [List.drop_zero, hdv] at hv
  have hr0 := val_nonneg h.ro
  have hr1 := h.lt
  have e : val rest = s * (X - Y * val Q) := by rw [Int.mul_sub, ← Int.mul_assoc]; omega
  have hs0 : (0 : Int) < s := by omega
  rw [e] at hr0 hr1
  have c0 : 0 ≤ X - Y * val Q := by
    rcases Int.lt_or_le (X - Y * val Q) 0 with h' | h'
    · have := Int.mul_neg_of_pos_of_neg hs0 h'; omega
    · exact h'
  have c1 : X - Y * val Q < Y := Int.lt_of_mul_lt_mul_left hr1 (Int.le_of_lt hs0)
  have hq : val Q = X / Y := by
    rw [show X = (X - Y * val Q) + Y * val Q by omega, Int.add_mul_ediv_left _ _ (by omega), Int.ediv_eq_zero_of_lt c0 c1]; omega
  refine ⟨hq, ?_⟩
  rw [e, Int.mul_ediv_cancel_left _ (by omega), hq, Int.emod_def]
end Go.Proofs.Ytcainjgcfbgddaa
