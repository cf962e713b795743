/-
  The program's natural numbers: contracts (6): divideByLimb, scaled, divideWindow.
-/
import Derived.Test.YtcainjgcfbgddaaDivP
import Derived.Test.YtcainjgcfbgddaaNatI5
import Derived.RegionTactic
import Derived.ChangeAlike
namespace Go.Proofs.Ytcainjgcfbgddaa
open Go.RowKit
set_option linter.unusedVariables false

set_option maxHeartbeats 3200000 in
theorem impl_ByLimb (w : World) (B : Nat) (hB : B ≤ w.heap.size) (A : Option Addr) (n c : Nat) (xs : List Int) (d : Int) (hn : xs.length = n) (hx : Rd w B A (iv xs)) (hl : n ≤ 1000000) (hlx : Limbs xs) (hd0 : 1 ≤ d) (hd1 : d ≤ 999999999) :
    Calls Try.prog 93 #[.slice A n c, .int .i64 d] w fun e w' => ∃ v, e = .returned (.tuple #[v, .int .i64 (val xs % d)]) ∧ Own w' w.heap.size w'.heap.size 3 v (limbs (val xs / d).toNat).length (iv (limbs (val xs / d).toNat)) ∧ Below w.heap.size w w' := by
  obtain ⟨i0, hi0, hz0, hz1, hz2⟩ := info_parts Try.infoInt
  obtain ⟨w1, hmk, hown0, hg0⟩ := run_make_full (P := Try.prog) w w.heap.size 22 3 i0 _ 1 Try.underlying22 hi0 hz0 hz1 .i64 .i64 n (by rw [hz2]; omega) (by unfold maxLen; omega) (Nat.le_refl _)
  have hb0 : Below w.heap.size w w1 := (Below.refl _ _).grown hg0 (Nat.le_refl _) (fun k h => by cases h)
  rw [made_zeros] at hown0
  have hbk : Blk w1 w.heap.size 3 (List.replicate n 0 ++ []) := by unfold Blk; rw [List.append_nil, List.length_replicate]; exact hown0
  have hS0 := DivS.start xs (d := d) (by omega)
  rw [hn] at hS0
  clear hi0 hz0 hz1 hz2 hg0 hown0
  go_enter Try.func93, Try.ntmps93
  go_wp2_with fail
  go_loopw [5, 6] (fun rr i wr => ∃ (k : Nat) (r : Int) (done : List Int), k ≤ n ∧ rr = .int .i64 r ∧ i = .int .i64 ((k : Int) - 1) ∧ Blk wr w.heap.size 3 (List.replicate k 0 ++ done) ∧ Hid (DivS xs done d r k) ∧ Below w.heap.size w wr) (fun _ i _ => (intOf i + 1).toNat)
  case atStart => exact ⟨n, 0, [], Nat.le_refl _, rfl, rfl, hbk, hS0, hb0⟩
  case round =>
    clear hbk hb0 hmk hS0
    obtain ⟨k, r, done, hk, rfl, rfl, hbk, S, hbl⟩ := hrel
    by_cases hk0 : k = 0
    · subst hk0
      rw [List.replicate_zero, List.nil_append] at hbk
      obtain ⟨hv, hr⟩ := S.out.done
      have hdl := S.out.len
      have HT : Hid (trim done = limbs (val xs / d).toNat) := trim_eq S.out.ok (by
        have := val_nonneg S.out.ok
        rw [← hv]; omega)
      have HR := hide hr
      have HL : done.length = n := by omega
      have HC := hide (impl_cutZeros wr w.heap.size (w.heap.size + 1) (some ⟨w.heap.size, 0, none⟩) n n done (by have := hbk.own n n (by omega); rwa [List.take_of_length_le (by omega)] at this) (Nat.le_refl _) (by unfold maxLen; omega))
      have hgs := hbk.lt
      clear hv hr S hx hlx hdl hbk HL
      go_wp2_with fail
      refine HC.out.mono ?_
      rintro e w' ⟨v, rfl, o, _, rfl⟩
      rw [HT.out] at o
      have HO := hide (o.wider (lo' := w.heap.size) (hi' := wr.heap.size) (Nat.le_refl _) (by omega))
      clear o HC
      go_wp2_with fail
      go_ret2
      exact ⟨_, ret_si rfl HR.out, HO.out, hbl⟩
    · obtain ⟨j, rfl⟩ : ∃ j, k = j + 1 := ⟨k - 1, by omega⟩
      rw [show (((j + 1 : Nat) : Int) - 1) = (j : Int) by omega]
      obtain ⟨ad, hA, hab, hc⟩ := (hx.below (hbl.mono hB)).int (k := j) (by omega)
      obtain ⟨hs0, hs1⟩ := S.out.small hlx (by omega)
      obtain ⟨hy0, hy1⟩ := hlx xs[j] (List.getElem_mem _)
      have hr0 := S.out.r0
      have hr1 := S.out.r1
      have HN := hide (fun q r' => S.out.next (q := q) (r' := r') hlx (by omega : j < xs.length))
      have HQ := hide (fun q r' => S.out.q (q := q) (r' := r') hlx (by omega : j < xs.length))
      generalize xs[j] = y at *
      have htd : (r * 1000000000 + y).tdiv d = (r * 1000000000 + y) / d := Int.tdiv_eq_ediv_of_nonneg hs0
      have htm : (r * 1000000000 + y).tmod d = (r * 1000000000 + y) % d := Int.tmod_eq_emod_of_nonneg hs0
      have hde := Int.mul_ediv_add_emod (r * 1000000000 + y) d
      have hm0 := Int.emod_nonneg (r * 1000000000 + y) (show d ≠ 0 by omega)
      have hm1 := Int.emod_lt_of_pos (r * 1000000000 + y) (show 0 < d by omega)
      generalize (r * 1000000000 + y) / d = q at *
      generalize (r * 1000000000 + y) % d = r' at *
      obtain ⟨hq0, hq1⟩ := HQ.out q r' hde.symm hm0 hm1
      have HS := hide (HN.out q r' hde.symm hm0 hm1)
      have hj1 : j < (List.replicate (j + 1) 0 ++ done).length := by simp; omega
      have hcell := hbk.cell hj1
      have hfz := hbk.frozen j
      have HB := hide (hbk.set j q)
      rw [zset] at HB
      have HBL := hide (hbl.setCell (p := ⟨w.heap.size, j, none⟩) (Nat.le_refl _) (.int .i64 q))
      have HBK := hide hbk
      have HBL0 := hide hbl
      generalize (List.replicate (j + 1) 0 ++ done)[j] = z at *
      have hdz : (d == 0) = false := by simp; omega
      have hj2 : (0 : Int) ≤ (j : Int) := Int.natCast_nonneg _
      have hj3 : (j : Int) < (n : Int) := by omega
      clear hde S hbk HN HQ hlx hx hk0 hj1
      subst hA
      go_wp2_with fail
      generalize hY : r * 1000000000 + y = Y at *
      clear hs0 hs1 hY
      go_region
      have HB2 := hide (HB.out.below (Below.refl (wr.setCell ⟨w.heap.size, j, none⟩ (.int .i64 q)).heap.size _).drew HB.out.lt)
      have HBL2 := hide (HBL.out.drew)
      generalize (wr.setCell ⟨w.heap.size, j, none⟩ (.int .i64 q)).drew = w5 at *
      go_wp2_with fail
      go_roundw
      case rel => exact ⟨j, r', q :: done, by omega, rfl, rfl, HB2.out, HS.out, HBL2.out⟩
      case measure => simp [intOf]

/-! ### scaled -/
set_option maxHeartbeats 800000 in
theorem impl_scaled (w : World) (B : Nat) (hB : B ≤ w.heap.size) (A : Option Addr) (n c : Nat) (xs : List Int) (f : Int) (hn : xs.length = n) (hx : Rd w B A (iv xs)) (hl : n ≤ 100000) (hlx : Limbs xs) (hf : -1000000000 ≤ f ∧ f ≤ 1000000000) :
    Calls Try.prog 94 #[.slice A n c, .int .i64 f] w fun e w' => ∃ g out, e = .returned (.slice (some ⟨g, 0, none⟩) (n + 1) (n + 1)) ∧ w.heap.size ≤ g ∧ Blk w' g 3 out ∧ out.length = n + 1 ∧ Limbs (out.take n) ∧ val out = f * val xs ∧ Below w.heap.size w w' := by
  obtain ⟨M, hM⟩ : ∃ M : Nat, M = n + 1 := ⟨_, rfl⟩
  obtain ⟨i0, hi0, hz0, hz1, hz2⟩ := info_parts Try.infoInt
  obtain ⟨w1, hmk, hown0, hg0⟩ := run_make_full (P := Try.prog) w w.heap.size 22 3 i0 _ 1 Try.underlying22 hi0 hz0 hz1 .i64 .i64 M (by rw [hz2]; omega) (by unfold maxLen; omega) (Nat.le_refl _)
  have hb0 : Below w.heap.size w w1 := (Below.refl _ _).grown hg0 (Nat.le_refl _) (fun k h => by cases h)
  rw [made_zeros] at hown0
  have hbk : Blk w1 w.heap.size 3 (List.replicate M 0) := by unfold Blk; rw [List.length_replicate]; exact hown0
  have HA := hide (impl_addWhole w1 w.heap.size M M B n c A (List.replicate M 0) xs f hbk (by simp) hn (by omega) (by omega) ((zeros_ok M).take _) (zeros_ok M).last hlx hf (hx.below (hb0.mono hB)) (by have := hb0.size; omega) (hx.sep hB))
  have hMe : (n : Int) + 1 = (M : Int) := by omega
  have HMM := hide hM
  have hgs := hbk.lt
  clear hi0 hz0 hz1 hz2 hg0 hown0 hM hbk hx hlx
  go_enter Try.func94, Try.ntmps94
  go_wp2_with fail
  refine HA.out.mono ?_
  rintro e w2 ⟨v, out, rfl, hblk, hl2, ht, hv, ha⟩
  have HB := hide hblk
  have HT := hide ht
  have HV := hide hv
  have HL := hide hl2
  have hb2 := hb0.trans (ha.below (Nat.le_refl _) (by omega))
  clear hblk ht hv hl2 ha
  go_wp2_with fail
  go_ret
  refine ⟨w.heap.size, out, by rw [show n + 1 = M from HMM.out.symm]; rfl, Nat.le_refl _, HB.out, by rw [HL.out, HMM.out], ?_, ?_, hb2⟩
  · have := HT.out
    rwa [HMM.out, Nat.add_sub_cancel] at this
  · rw [HV.out, val_zeros]; simp

/-! ### divideWindow: mathematics -/
theorem val_top2 {l : List Int} {n : Nat} (hl : l.length = n + 1) (hn : 0 < n) : val l = val (l.take (n - 1)) + 1000000000 ^ (n - 1) * (l[n] * 1000000000 + l[n - 1]) := by
  have e1 := val_take_step l (n - 1)
  have e2 := val_take_step l n
  rw [List.take_of_length_le (by omega), getD_in (by omega)] at e2
  rw [show n - 1 + 1 = n by omega, getD_in (by omega)] at e1
  have e3 : (1000000000 : Int) ^ n = 1000000000 ^ (n - 1) * 1000000000 := by rw [← Int.pow_succ]; congr 1; omega
  rw [e2, e1, e3, Int.mul_add, Int.mul_assoc, Int.mul_comm 1000000000 l[n]]
  omega
theorem val_top1 {l : List Int} {n : Nat} (hl : l.length = n) (hn : 0 < n) : val l = val (l.take (n - 1)) + 1000000000 ^ (n - 1) * l[n - 1] := by
  have e1 := val_take_step l (n - 1)
  rw [show n - 1 + 1 = n by omega, List.take_of_length_le (by omega), getD_in (by omega)] at e1
  exact e1
theorem top_pos {l : List Int} {n : Nat} (h : Canon l) (hl : l.length = n) (hn : 0 < n) : 1 ≤ l[n - 1] ∧ l[n - 1] ≤ 999999999 := by
  have h1 := h.1 l[n - 1] (List.getElem_mem _)
  have h2 := h.2 l[n - 1] (by rw [List.getLast?_eq_getElem?, List.getElem?_eq_getElem (by omega)]; congr 2; omega)
  omega
/-- the guess from the first limbs is never too small -/
theorem guess_ge {mid ys : List Int} {n : Nat} {q : Int} (hm : mid.length = n + 1) (hy : ys.length = n) (hn : 0 < n) (hlm : Limbs mid) (hly : Limbs ys) (hd : 0 < ys[n - 1]) (hq : q * val ys ≤ val mid) (h0 : 0 ≤ q) : q ≤ (mid[n] * 1000000000 + mid[n - 1]) / ys[n - 1] := by
  have e1 := val_top2 hm hn
  have e2 := val_top1 hy hn
  have a1 := val_lt (hlm.take (n - 1))
  have a2 := val_nonneg (hly.take (n - 1))
  rw [List.length_take, Nat.min_eq_left (by omega)] at a1
  rw [Int.le_ediv_iff_mul_le hd]
  generalize mid[n] * 1000000000 + mid[n - 1] = t at *
  generalize ys[n - 1] = d at *
  have hp := pow_pos' (n - 1)
  have b1 : q * (1000000000 ^ (n - 1) * d) ≤ q * val ys := Int.mul_le_mul_of_nonneg_left (by omega) h0
  rw [Int.mul_left_comm] at b1
  have b2 : 1000000000 ^ (n - 1) * (q * d) < 1000000000 ^ (n - 1) * (t + 1) := by rw [Int.mul_add, Int.mul_one]; omega
  have := Int.lt_of_mul_lt_mul_left b2 (Int.le_of_lt hp)
  omega
/-- the window's value, its last limb telling the sign -/
theorem win_sign {out : List Int} {n : Nat} (hl : out.length = n + 1) (ht : Limbs (out.take n)) : (out[n] < 0 ↔ val out < 0) ∧ (∀ C : Int, -(1000000000 ^ n * C) ≤ val out → -C ≤ out[n]) ∧ (∀ C : Int, val out < 1000000000 ^ n * C → out[n] < C) := by
  have e := val_top1 hl (by omega)
  simp only [Nat.add_sub_cancel] at e
  have a0 := val_nonneg ht
  have a1 := val_lt ht
  rw [List.length_take, Nat.min_eq_left (by omega)] at a1
  have hp := pow_pos' n
  generalize out[n] = d at *
  refine ⟨⟨fun h => ?_, fun h => ?_⟩, fun C h => ?_, fun C h => ?_⟩
  · have := Int.mul_le_mul_of_nonneg_left (show d ≤ -1 by omega) (Int.le_of_lt hp)
    omega
  · rcases Int.lt_or_le d 0 with h' | h'
    · exact h'
    · have := Int.mul_nonneg (Int.le_of_lt hp) h'
      omega
  · rcases Int.lt_or_le d (-C) with h' | h'
    · have := Int.mul_le_mul_of_nonneg_left (show d ≤ -C - 1 by omega) (Int.le_of_lt hp)
      rw [Int.mul_sub, Int.mul_neg] at this
      omega
    · exact h'
  · rcases Int.lt_or_le d C with h' | h'
    · exact h'
    · have := Int.mul_le_mul_of_nonneg_left h' (Int.le_of_lt hp)
      omega
end Go.Proofs.Ytcainjgcfbgddaa
