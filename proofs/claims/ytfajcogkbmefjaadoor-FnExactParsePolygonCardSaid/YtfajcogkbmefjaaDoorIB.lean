/-
  The texts LongP, put together; each has its own heading below. No condition of ours.
-/
import Derived.Test.YtfajcogkbmefjaaDoorPB
import Derived.Test.YtfajcogkbmefjaaDoorIA
import Derived.RegionTactic
import Derived.ChangeAlike
import Derived.Deep.QuietTactic
import Derived.BigQuiet
import Derived.IntWalk
/-
  Long division by windows, as mathematics. Of no program.
-/

namespace Go.Proofs.YtfajcogkbmefjaaDoor
open Go.RowKit
set_option linter.unusedVariables false

/-- how far the windows have come: k of them are left -/
structure LongS (dv : List Int) (D : Int) (T k : Nat) (rest Q : List Int) : Prop where
  rl : rest.length = dv.length - k
  ro : Limbs rest
  ql : Q.length = T - k
  qo : Limbs Q
  v : val (dv.drop k) = D * val Q + val rest
  lt : val rest < D
theorem small_take {l : List Int} {m : Nat} (h : Limbs l) (hv : val l < 1000000000 ^ m) (hm : m ≤ l.length) : val (l.take m) = val l ∧ val (l.drop m) = 0 := by
  have e : val l = val (l.take m) + 1000000000 ^ m * val (l.drop m) := by
    conv => lhs; rw [← List.take_append_drop m l, val_append, List.length_take, Nat.min_eq_left hm]
  have a0 := val_nonneg (h.take m)
  have a1 := val_nonneg (h.drop m)
  have hp := pow_pos' m
  have hz : val (l.drop m) = 0 := by
    rcases Int.lt_or_le 0 (val (l.drop m)) with h' | h'
    · have := Int.mul_le_mul_of_nonneg_left (show 1 ≤ val (l.drop m) by omega) (Int.le_of_lt hp)
      omega
    · omega
  rw [hz, Int.mul_zero] at e
  exact ⟨by omega, hz⟩
/-- the window at place j -/
theorem LongS.win {dv rest Q : List Int} {D : Int} {T j m : Nat} (h : LongS dv D T (j + 1) rest Q) (hdv : Limbs dv) (hj : j < dv.length) (hD : D < 1000000000 ^ m) (hm : m ≤ rest.length) :
    val (dv[j] :: rest.take m) = dv[j] + 1000000000 * val rest ∧ Limbs (dv[j] :: rest.take m) ∧ val (dv[j] :: rest.take m) < 1000000000 * D := by
  obtain ⟨e1, e2⟩ := small_take h.ro (Int.lt_trans h.lt hD) hm
  have hd := hdv dv[j] (List.getElem_mem _)
  have hl := h.lt
  refine ⟨by rw [val, e1], Limbs.mk hd (h.ro.take m), ?_⟩
  rw [val, e1]
  omega
theorem LongS.next {dv rest Q out : List Int} {D : Int} {T j m : Nat} (h : LongS dv D T (j + 1) rest Q) (hdv : Limbs dv) (hj : j < dv.length) (hD : D < 1000000000 ^ m) (hm : m ≤ rest.length) (hjT : j < T) (hD0 : 0 < D)
    (ol : out.length = m + 1) (oo : Limbs out) (ov : val out = val (dv[j] :: rest.take m) % D) : LongS dv D T j (out ++ rest.drop m) (val (dv[j] :: rest.take m) / D :: Q) := by
  obtain ⟨w1, w2, w3⟩ := h.win hdv hj hD hm
  obtain ⟨e1, e2⟩ := small_take h.ro (Int.lt_trans h.lt hD) hm
  have hmod := Int.mul_ediv_add_emod (val (dv[j] :: rest.take m)) D
  have hm1 := Int.emod_lt_of_pos (val (dv[j] :: rest.take m)) hD0
  have hq0 : 0 ≤ val (dv[j] :: rest.take m) / D := Int.ediv_nonneg (val_nonneg w2) (Int.le_of_lt hD0)
  have hq1 : val (dv[j] :: rest.take m) / D < 1000000000 := Int.ediv_lt_of_lt_mul hD0 w3
  have hv := val_drop hj
  have hrv : val (out ++ rest.drop m) = val out := by rw [val_append, e2]; simp
  have hrl := h.rl
  refine ⟨?_, oo.append (h.ro.drop m), ?_, Limbs.mk ⟨hq0, by omega⟩ h.qo, ?_, ?_⟩
  · rw [List.length_append, ol, List.length_drop, hrl]; omega
  · rw [List.length_cons, h.ql]; omega
  · rw [hrv, hv, h.v, val]
    generalize hq : val (dv[j] :: rest.take m) / D = q at *
    have e : D * (1000000000 * val Q) = 1000000000 * (D * val Q) := by rw [Int.mul_left_comm]
    rw [Int.mul_add D q, e]
    omega
  · rw [hrv]; omega
end Go.Proofs.YtfajcogkbmefjaaDoor
