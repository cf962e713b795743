/-
  The texts NatI6, NatI7, LongP, NatI8, put together; each has its own heading below. No condition of ours.
-/
import Derived.Test.YtdcceppednngjabPB
import Derived.Test.YtdcceppednngjabIA
import Derived.RegionTactic
import Derived.ChangeAlike
import Derived.Deep.QuietTactic
import Derived.BigQuiet
import Derived.IntWalk
/-
  The program's natural numbers: contracts (6): divideByLimb, scaled, divideWindow.
-/




namespace Go.Proofs.Ytdcceppednngjab
open Go.RowKit
set_option linter.unusedVariables false

set_option maxHeartbeats 3200000 in
theorem impl_ByLimb (w : World) (B : Nat) (hB : B ≤ w.heap.size) (A : Option Addr) (n c : Nat) (xs : List Int) (d : Int) (hn : xs.length = n) (hx : Rd w B A (iv xs)) (hl : n ≤ 1000000) (hlx : Limbs xs) (hd0 : 1 ≤ d) (hd1 : d ≤ 999999999) :
    Calls Try.prog 70 #[.slice A n c, .int .i64 d] w fun e w' => ∃ v, e = .returned (.tuple #[v, .int .i64 (val xs % d)]) ∧ Own w' w.heap.size w'.heap.size 3 v (limbs (val xs / d).toNat).length (iv (limbs (val xs / d).toNat)) ∧ Below w.heap.size w w' := by
  obtain ⟨i0, hi0, hz0, hz1, hz2⟩ := info_parts Try.infoInt
  obtain ⟨w1, hmk, hown0, hg0⟩ := run_make_full (P := Try.prog) w w.heap.size 28 3 i0 _ 1 Try.underlying28 hi0 hz0 hz1 .i64 .i64 n (by rw [hz2]; omega) (by unfold maxLen; omega) (Nat.le_refl _)
  have hb0 : Below w.heap.size w w1 := (Below.refl _ _).grown hg0 (Nat.le_refl _) (fun k h => by cases h)
  rw [made_zeros] at hown0
  have hbk : Blk w1 w.heap.size 3 (List.replicate n 0 ++ []) := by unfold Blk; rw [List.append_nil, List.length_replicate]; exact hown0
  have hS0 := DivS.start xs (d := d) (by omega)
  rw [hn] at hS0
  clear hi0 hz0 hz1 hz2 hg0 hown0
  go_enter Try.func70, Try.ntmps70
  go_wp2_with fail
  go_loopw [5, 6] (fun rr i wr => ∃ (k : Nat) (r : Int) (done : List Int), k ≤ n ∧ rr = .int .i64 r ∧ i = .int .i64 ((k : Int) - 1) ∧ Blk wr w.heap.size 3 (List.replicate k 0 ++ done) ∧ Hid (DivS xs done d r k) ∧ Below w.heap.size w wr) (fun _ i _ => (intOf i + 1).toNat)
  case atStart => exact ⟨n, 0, [], Nat.le_refl _, rfl, rfl, hbk, hS0, hb0⟩
  case round =>
    clear hbk hb0 hmk hS0
    obtain ⟨k, r, done, hk, rfl, rfl, hbk, S, hbl⟩ := hrel
    by_cases hk0 : k = 0
    · subst hk0
      rw [List.replicate_zero, List.nil_append] at hbk
      obtain ⟨hv, hr⟩ := S.out.done
      have hdl := S.out.len
      have HT : Hid (trim done = limbs (val xs / d).toNat) := trim_eq S.out.ok (by
        have := val_nonneg S.out.ok
        rw [← hv]; omega)
      have HR := hide hr
      have HL : done.length = n := by omega
      have HC := hide (impl_cutZeros wr w.heap.size (w.heap.size + 1) (some ⟨w.heap.size, 0, none⟩) n n done (by have := hbk.own n n (by omega); rwa [List.take_of_length_le (by omega)] at this) (Nat.le_refl _) (by unfold maxLen; omega))
      have hgs := hbk.lt
      clear hv hr S hx hlx hdl hbk HL
      go_wp2_with fail
      refine HC.out.mono ?_
      rintro e w' ⟨v, rfl, o, _, rfl⟩
      rw [HT.out] at o
      have HO := hide (o.wider (lo' := w.heap.size) (hi' := wr.heap.size) (Nat.le_refl _) (by omega))
      clear o HC
      go_wp2_with fail
      go_ret2
      exact ⟨_, ret_si rfl HR.out, HO.out, hbl⟩
    · obtain ⟨j, rfl⟩ : ∃ j, k = j + 1 := ⟨k - 1, by omega⟩
      rw [show (((j + 1 : Nat) : Int) - 1) = (j : Int) by omega]
      obtain ⟨ad, hA, hab, hc⟩ := (hx.below (hbl.mono hB)).int (k := j) (by omega)
      obtain ⟨hs0, hs1⟩ := S.out.small hlx (by omega)
      obtain ⟨hy0, hy1⟩ := hlx xs[j] (List.getElem_mem _)
      have hr0 := S.out.r0
      have hr1 := S.out.r1
      have HN := hide (fun q r' => S.out.next (q := q) (r' := r') hlx (by omega : j < xs.length))
      have HQ := hide (fun q r' => S.out.q (q := q) (r' := r') hlx (by omega : j < xs.length))
      generalize xs[j] = y at *
      have htd : (r * 1000000000 + y).tdiv d = (r * 1000000000 + y) / d := Int.tdiv_eq_ediv_of_nonneg hs0
      have htm : (r * 1000000000 + y).tmod d = (r * 1000000000 + y) % d := Int.tmod_eq_emod_of_nonneg hs0
      have hde := Int.mul_ediv_add_emod (r * 1000000000 + y) d
      have hm0 := Int.emod_nonneg (r * 1000000000 + y) (show d ≠ 0 by omega)
      have hm1 := Int.emod_lt_of_pos (r * 1000000000 + y) (show 0 < d by omega)
      generalize (r * 1000000000 + y) / d = q at *
      generalize (r * 1000000000 + y) % d = r' at *
      obtain ⟨hq0, hq1⟩ := HQ.out q r' hde.symm hm0 hm1
      have HS := hide (HN.out q r' hde.symm hm0 hm1)
      have hj1 : j < (List.replicate (j + 1) 0 ++ done).length := by simp; omega
      have hcell := hbk.cell hj1
      have hfz := hbk.frozen j
      have HB := hide (hbk.set j q)
      rw [zset] at HB
      have HBL := hide (hbl.setCell (p := ⟨w.heap.size, j, none⟩) (Nat.le_refl _) (.int .i64 q))
      have HBK := hide hbk
      have HBL0 := hide hbl
      generalize (List.replicate (j + 1) 0 ++ done)[j] = z at *
      have hdz : (d == 0) = false := by simp; omega
      have hj2 : (0 : Int) ≤ (j : Int) := Int.natCast_nonneg _
      have hj3 : (j : Int) < (n : Int) := by omega
      clear hde S hbk HN HQ hlx hx hk0 hj1
      subst hA
      go_wp2_with fail
      generalize hY : r * 1000000000 + y = Y at *
      clear hs0 hs1 hY
      go_region
      have HB2 := hide (HB.out.below (Below.refl (wr.setCell ⟨w.heap.size, j, none⟩ (.int .i64 q)).heap.size _).drew HB.out.lt)
      have HBL2 := hide (HBL.out.drew)
      generalize (wr.setCell ⟨w.heap.size, j, none⟩ (.int .i64 q)).drew = w5 at *
      go_wp2_with fail
      go_roundw
      case rel => exact ⟨j, r', q :: done, by omega, rfl, rfl, HB2.out, HS.out, HBL2.out⟩
      case measure => simp [intOf]

/-! ### scaled -/
set_option maxHeartbeats 800000 in
theorem impl_scaled (w : World) (B : Nat) (hB : B ≤ w.heap.size) (A : Option Addr) (n c : Nat) (xs : List Int) (f : Int) (hn : xs.length = n) (hx : Rd w B A (iv xs)) (hl : n ≤ 100000) (hlx : Limbs xs) (hf : -1000000000 ≤ f ∧ f ≤ 1000000000) :
    Calls Try.prog 71 #[.slice A n c, .int .i64 f] w fun e w' => ∃ g out, e = .returned (.slice (some ⟨g, 0, none⟩) (n + 1) (n + 1)) ∧ w.heap.size ≤ g ∧ Blk w' g 3 out ∧ out.length = n + 1 ∧ Limbs (out.take n) ∧ val out = f * val xs ∧ Below w.heap.size w w' := by
  obtain ⟨M, hM⟩ : ∃ M : Nat, M = n + 1 := ⟨_, rfl⟩
  obtain ⟨i0, hi0, hz0, hz1, hz2⟩ := info_parts Try.infoInt
  obtain ⟨w1, hmk, hown0, hg0⟩ := run_make_full (P := Try.prog) w w.heap.size 28 3 i0 _ 1 Try.underlying28 hi0 hz0 hz1 .i64 .i64 M (by rw [hz2]; omega) (by unfold maxLen; omega) (Nat.le_refl _)
  have hb0 : Below w.heap.size w w1 := (Below.refl _ _).grown hg0 (Nat.le_refl _) (fun k h => by cases h)
  rw [made_zeros] at hown0
  have hbk : Blk w1 w.heap.size 3 (List.replicate M 0) := by unfold Blk; rw [List.length_replicate]; exact hown0
  have HA := hide (impl_addWhole w1 w.heap.size M M B n c A (List.replicate M 0) xs f hbk (by simp) hn (by omega) (by omega) ((zeros_ok M).take _) (zeros_ok M).last hlx hf (hx.below (hb0.mono hB)) (by have := hb0.size; omega) (hx.sep hB))
  have hMe : (n : Int) + 1 = (M : Int) := by omega
  have HMM := hide hM
  have hgs := hbk.lt
  clear hi0 hz0 hz1 hz2 hg0 hown0 hM hbk hx hlx
  go_enter Try.func71, Try.ntmps71
  go_wp2_with fail
  refine HA.out.mono ?_
  rintro e w2 ⟨v, out, rfl, hblk, hl2, ht, hv, ha⟩
  have HB := hide hblk
  have HT := hide ht
  have HV := hide hv
  have HL := hide hl2
  have hb2 := hb0.trans (ha.below (Nat.le_refl _) (by omega))
  clear hblk ht hv hl2 ha
  go_wp2_with fail
  go_ret
  refine ⟨w.heap.size, out, by rw [show n + 1 = M from HMM.out.symm]; rfl, Nat.le_refl _, HB.out, by rw [HL.out, HMM.out], ?_, ?_, hb2⟩
  · have := HT.out
    rwa [HMM.out, Nat.add_sub_cancel] at this
  · rw [HV.out, val_zeros]; simp

/-! ### divideWindow: mathematics -/
theorem val_top2 {l : List Int} {n : Nat} (hl : l.length = n + 1) (hn : 0 < n) : val l = val (l.take (n - 1)) + 1000000000 ^ (n - 1) * (l[n] * 1000000000 + l[n - 1]) := by
  have e1 := val_take_step l (n - 1)
  have e2 := val_take_step l n
  rw [List.take_of_length_le (by omega), getD_in (by omega)] at e2
  rw [show n - 1 + 1 = n by omega, getD_in (by omega)] at e1
  have e3 : (1000000000 : Int) ^ n = 1000000000 ^ (n - 1) * 1000000000 := by rw [← Int.pow_succ]; congr 1; omega
  rw [e2, e1, e3, Int.mul_add, Int.mul_assoc, Int.mul_comm 1000000000 l[n]]
  omega
theorem val_top1 {l : List Int} {n : Nat} (hl : l.length = n) (hn : 0 < n) : val l = val (l.take (n - 1)) + 1000000000 ^ (n - 1) * l[n - 1] := by
  have e1 := val_take_step l (n - 1)
  rw [show n - 1 + 1 = n by omega, List.take_of_length_le (by omega), getD_in (by omega)] at e1
  exact e1
theorem top_pos {l : List Int} {n : Nat} (h : Canon l) (hl : l.length = n) (hn : 0 < n) : 1 ≤ l[n - 1] ∧ l[n - 1] ≤ 999999999 := by
  have h1 := h.1 l[n - 1] (List.getElem_mem _)
  have h2 := h.2 l[n - 1] (by rw [List.getLast?_eq_getElem?, List.getElem?_eq_getElem (by omega)]; congr 2; omega)
  omega
/-- the guess from the first limbs is never too small -/
theorem guess_ge {mid ys : List Int} {n : Nat} {q : Int} (hm : mid.length = n + 1) (hy : ys.length = n) (hn : 0 < n) (hlm : Limbs mid) (hly : Limbs ys) (hd : 0 < ys[n - 1]) (hq : q * val ys ≤ val mid) (h0 : 0 ≤ q) : q ≤ (mid[n] * 1000000000 + mid[n - 1]) / ys[n - 1] := by
  have e1 := val_top2 hm hn
  have e2 := val_top1 hy hn
  have a1 := val_lt (hlm.take (n - 1))
  have a2 := val_nonneg (hly.take (n - 1))
  rw [List.length_take, Nat.min_eq_left (by omega)] at a1
  rw [Int.le_ediv_iff_mul_le hd]
  generalize mid[n] * 1000000000 + mid[n - 1] = t at *
  generalize ys[n - 1] = d at *
  have hp := pow_pos' (n - 1)
  have b1 : q * (1000000000 ^ (n - 1) * d) ≤ q * val ys := Int.mul_le_mul_of_nonneg_left (by omega) h0
  rw [Int.mul_left_comm] at b1
  have b2 : 1000000000 ^ (n - 1) * (q * d) < 1000000000 ^ (n - 1) * (t + 1) := by rw [Int.mul_add, Int.mul_one]; omega
  have := Int.lt_of_mul_lt_mul_left b2 (Int.le_of_lt hp)
  omega
/-- the window's value, its last limb telling the sign -/
theorem win_sign {out : List Int} {n : Nat} (hl : out.length = n + 1) (ht : Limbs (out.take n)) : (out[n] < 0 ↔ val out < 0) ∧ (∀ C : Int, -(1000000000 ^ n * C) ≤ val out → -C ≤ out[n]) ∧ (∀ C : Int, val out < 1000000000 ^ n * C → out[n] < C) := by
  have e := val_top1 hl (by omega)
  simp only [Nat.add_sub_cancel] at e
  have a0 := val_nonneg ht
  have a1 := val_lt ht
  rw [List.length_take, Nat.min_eq_left (by omega)] at a1
  have hp := pow_pos' n
  generalize out[n] = d at *
  refine ⟨⟨fun h => ?_, fun h => ?_⟩, fun C h => ?_, fun C h => ?_⟩
  · have := Int.mul_le_mul_of_nonneg_left (show d ≤ -1 by omega) (Int.le_of_lt hp)
    omega
  · rcases Int.lt_or_le d 0 with h' | h'
    · exact h'
    · have := Int.mul_nonneg (Int.le_of_lt hp) h'
      omega
  · rcases Int.lt_or_le d (-C) with h' | h'
    · have := Int.mul_le_mul_of_nonneg_left (show d ≤ -C - 1 by omega) (Int.le_of_lt hp)
      rw [Int.mul_sub, Int.mul_neg] at this
      omega
    · exact h'
  · rcases Int.lt_or_le d C with h' | h'
    · exact h'
    · have := Int.mul_le_mul_of_nonneg_left h' (Int.le_of_lt hp)
      omega
end Go.Proofs.Ytdcceppednngjab

/-
  The program's natural numbers: contracts (7): divideWindow, divideLimbs, NatDiv.
-/




namespace Go.Proofs.Ytdcceppednngjab
open Go.RowKit
set_option linter.unusedVariables false

theorem Below.asides {w w' : World} (h : Below w.heap.size w w') (lo hi : Nat) : Aside lo hi w w' := ⟨h.os, h.tape, h.output, h.size, fun k hk _ => h.block k hk⟩
/-- the window, told for a round: the quotient that is tried, and what it leaves -/
structure WinS (mid ys out : List Int) (n : Nat) (t : Int) : Prop where
  len : out.length = n + 1
  low : Limbs (out.take n)
  v : val out = val mid - t * val ys
  ge : val mid / val ys ≤ t
  b0 : 0 ≤ t
  b1 : t ≤ 999999999
set_option maxHeartbeats 3200000 in
theorem impl_Window (w : World) (g off n cw : Nat) (B c : Nat) (A : Option Addr) (pre mid post ys : List Int)
    (hblk : Blk w g 3 (pre ++ mid ++ post)) (hoff : pre.length = off) (hm : mid.length = n + 1) (hy : ys.length = n) (hn : 2 ≤ n) (hbig : off + n ≤ 100000)
    (hlm : Limbs mid) (hcy : Canon ys) (hlt : val mid < 1000000000 * val ys) (hry : Rd w B A (iv ys)) (hB : B ≤ w.heap.size) (hsep : ∀ ad, A = some ad → ad.block < g ∨ g + 1 ≤ ad.block) :
    Calls Try.prog 72 #[.slice (some ⟨g, off, none⟩) (n + 1) cw, .slice A n c] w fun e w' => ∃ out, e = .returned (.int .i64 (val mid / val ys)) ∧ Blk w' g 3 (pre ++ out ++ post) ∧ out.length = n + 1 ∧ Limbs out ∧ val out = val mid % val ys ∧ Aside g (g + 1) w w' := by
  subst hoff
  have hD : 0 < val ys := val_pos hcy (fun e => by subst e; simp at hy; omega)
  have htop := top_pos hcy hy (by omega)
  have hV0 := val_nonneg hlm
  have hq0 : 0 ≤ val mid / val ys := Int.ediv_nonneg hV0 (Int.le_of_lt hD)
  have hq1 : val mid / val ys ≤ 999999999 := by
    have := Int.ediv_lt_of_lt_mul hD hlt
    omega
  have hqm : val mid / val ys * val ys ≤ val mid := (Int.le_ediv_iff_mul_le hD).1 (Int.le_refl _)
  have hguess := guess_ge hm hy (by omega) hlm hcy.1 (by omega) hqm hq0
  have hc1 := hblk.cell (j := pre.length + n) (by simp only [List.length_append]; omega)
  have hc2 := hblk.cell (j := pre.length + (n - 1)) (by simp only [List.length_append]; omega)
  have e1 : (pre ++ mid ++ post)[pre.length + n]'(by simp only [List.length_append]; omega) = mid[n] := by
    rw [List.getElem_append_left (by simp only [List.length_append]; omega), List.getElem_append_right (by omega)]
    congr 1; omega
  have e2 : (pre ++ mid ++ post)[pre.length + (n - 1)]'(by simp only [List.length_append]; omega) = mid[n - 1] := by
    rw [List.getElem_append_left (by simp only [List.length_append]; omega), List.getElem_append_right (by omega)]
    congr 1; omega
  rw [e1] at hc1
  rw [e2] at hc2
  obtain ⟨ad, hA, hab, hc3⟩ := hry.int (k := n - 1) (by omega)
  have hl1 := hlm mid[n] (List.getElem_mem _)
  have hl2 := hlm mid[n - 1] (List.getElem_mem _)
  have ht0 : 0 ≤ mid[n] * 1000000000 + mid[n - 1] := by omega
  have ht1 : mid[n] * 1000000000 + mid[n - 1] ≤ 999999999999999999 := by omega
  have htd : (mid[n] * 1000000000 + mid[n - 1]).tdiv ys[n - 1] = (mid[n] * 1000000000 + mid[n - 1]) / ys[n - 1] := Int.tdiv_eq_ediv_of_nonneg ht0
  have hG0 : 0 ≤ (mid[n] * 1000000000 + mid[n - 1]) / ys[n - 1] := Int.ediv_nonneg ht0 (by omega)
  have hG1 : (mid[n] * 1000000000 + mid[n - 1]) / ys[n - 1] ≤ 999999999999999999 := Int.le_trans (Int.ediv_le_self _ ht0) ht1
  have hmul : IntKind.i64.wrap (mid[n] * 1000000000) = mid[n] * 1000000000 := IntWalk.i64_in _ (by omega)
  have hsum : IntKind.i64.wrap (mid[n] * 1000000000 + mid[n - 1]) = mid[n] * 1000000000 + mid[n - 1] := IntWalk.i64_in _ (by omega)
  generalize mid[n] = x1 at *
  generalize mid[n - 1] = x2 at *
  generalize ys[n - 1] = d at *
  have hn1 : IntKind.i64.wrap ((n : Int) - 1) = (n : Int) - 1 := IntWalk.i64_in _ (by omega)
  have hn2 : (0 : Int) ≤ (n : Int) - 1 := by omega
  have hn3 : ((n : Int) - 1).toNat = n - 1 := by omega
  have hn4 : (n : Int) < ((n + 1 : Nat) : Int) := by omega
  have hn5 : (n : Int) - 1 < ((n + 1 : Nat) : Int) := by omega
  have hn6 : (n : Int) - 1 < (n : Int) := by omega
  have hdz : (d == 0) = false := by simp; omega
  obtain ⟨t, hT⟩ : ∃ t, t = (if 999999999 < (x1 * 1000000000 + x2) / d then 999999999 else (x1 * 1000000000 + x2) / d) := ⟨_, rfl⟩
  have htq : val mid / val ys ≤ t ∧ 0 ≤ t ∧ t ≤ 999999999 := by rw [hT]; split <;> omega
  have HT := hide hT
  have HLM := hide hlm
  have HCY := hide hcy
  have HRY := hide hry
  have HBK := hide hblk
  have HSEP := hide hsep
  -- one more or less of the divisor
  have HADD := hide (fun (w1 : World) (out : List Int) (f : Int) (hb : Blk w1 g 3 (pre ++ out ++ post)) (hl : out.length = n + 1) (hlo : Limbs (out.take n)) (hla : ∀ d, out.getLast? = some d → -1000000000000000000 ≤ d ∧ d ≤ 1000000000000000000) (hf : -1000000000 ≤ f ∧ f ≤ 1000000000) (hr : Rd w1 B (some ad) (iv ys)) (hB1 : B ≤ w1.heap.size) =>
    impl_addTimes w1 g pre.length (n + 1) cw B n c (some ad) pre out post ys f hb rfl hl hy (by omega) (by omega) (by simpa using hlo) hla hcy.1 hf hr hB1 (fun _ => hA ▸ hsep))
  clear hT hguess hlm hcy hqm hl1 hl2 ht0 ht1 hry hblk hsep
  subst hA
  go_enter Try.func72, Try.ntmps72
  go_wp2_with fail
  go_quiet (fail)
  rw [← HT.out]
  obtain ⟨ht0, ht1, ht2⟩ := htq
  clear hG0 hG1 htd hmul hsum hn1 hn2 hn3 hn4 hn5 hn6 hdz hc1 hc2 hc3
  have hbd := below_drewN (Below.refl w.heap.size w) nq
  have hgw := HBK.out.lt
  have HA1 := hide (HADD.out (w.drewN nq) mid (-t) (HBK.out.below hbd hgw) hm (HLM.out.take n) HLM.out.last ⟨by omega, by omega⟩ (HRY.out.below (hbd.mono hB)) hB)
  have HAS0 := hide (Below.asides hbd g (g + 1))
  have hq1' := hq1
  have HV1 : Hid (∀ out : List Int, out.length = n + 1 → Limbs (out.take (n + 1 - 1)) → val out = val mid + -t * val ys → WinS mid ys out n t) := fun out hl hlo hv =>
    ⟨hl, by simpa using hlo, by rw [hv, Int.neg_mul]; omega, ht0, ht1, ht2⟩
  generalize w.drewN nq = w1 at *
  go_wp2_with fail
  refine HA1.out.mono ?_
  rintro e w2 ⟨v, out, rfl, hblk2, hl2, hlo2, hv2, ha2⟩
  have HW2 := hide (HV1.out out hl2 hlo2 hv2)
  have hbk2 := hblk2
  have has2 := HAS0.out.trans ha2
  clear hblk2 hlo2 hv2 ha2 hl2 HA1 HV1
  go_wp2_with fail
  go_loopw [6] (fun tt wr => ∃ (t : Int) (out : List Int), tt = .int .i64 t ∧ Blk wr g 3 (pre ++ out ++ post) ∧ Hid (WinS mid ys out n t) ∧ Aside g (g + 1) w wr) (fun tt _ => (intOf tt).toNat)
  case atStart => exact ⟨t, out, rfl, hbk2, HW2, has2⟩
  case round =>
    clear hbk2 HW2 has2 ht0 ht1 ht2 HT
    obtain ⟨t, out, rfl, hbk, HW, has⟩ := hrel
    have hol := HW.out.len
    have hv := HW.out.v
    have hge := HW.out.ge
    have hb0 := HW.out.b0
    have hb1 := HW.out.b1
    obtain ⟨sg, slo, shi⟩ := win_sign hol HW.out.low
    have hDn : val ys < 1000000000 ^ n := by have := val_lt HCY.out.1; rwa [hy] at this
    have htD0 : 0 ≤ t * val ys := Int.mul_nonneg hb0 (Int.le_of_lt hD)
    have htD1 : t * val ys ≤ 999999999 * val ys := Int.mul_le_mul_of_nonneg_right hb1 (Int.le_of_lt hD)
    have hc1 := hbk.cell (j := pre.length + n) (by simp only [List.length_append]; omega)
    have e1 : (pre ++ out ++ post)[pre.length + n]'(by simp only [List.length_append]; omega) = out[n] := by
      rw [List.getElem_append_left (by simp only [List.length_append]; omega), List.getElem_append_right (by omega)]
      congr 1; omega
    rw [e1] at hc1
    by_cases hneg : out[n] < 0
    · have hvn := sg.1 hneg
      have htq : val mid / val ys < t := by
        rcases Int.lt_or_le (val mid / val ys) t with h | h
        · exact h
        · have := (Int.le_ediv_iff_mul_le hD).1 h
          omega
      have hlow : -1000000000 ≤ out[n] := slo 1000000000 (by omega)
      have hws := has.size
      have hgl := hbk.lt
      have HA1 := hide (HADD.out wr out 1 hbk hol HW.out.low (fun d hd => by
        rw [List.getLast?_eq_getElem?, hol, Nat.add_sub_cancel, List.getElem?_eq_getElem (by omega)] at hd
        injection hd with hd
        omega) (by omega) (HRY.out.aside has hB HSEP.out) (by omega))
      have HN : Hid (∀ out' : List Int, out'.length = n + 1 → Limbs (out'.take (n + 1 - 1)) → val out' = val out + 1 * val ys → WinS mid ys out' n (t - 1)) := fun out' hl hlo hv' =>
        ⟨hl, by simpa using hlo, by rw [hv', hv, Int.sub_mul]; omega, by omega, by omega, by omega⟩
      have HAS := hide has
      generalize out[n] = z at *
      clear e1 sg slo shi hv hvn hbk has htD0 htD1 hDn HW
      go_wp2_with fail
      refine HA1.out.mono ?_
      rintro e w3 ⟨v, out3, rfl, hblk3, hl3, hlo3, hv3, ha3⟩
      have HW3 := hide (HN.out out3 hl3 hlo3 hv3)
      have hbk3 := hblk3
      have has3 := HAS.out.trans ha3
      clear hblk3 hlo3 hv3 ha3 hl3 HA1 HN
      go_wp2_with fail
      go_roundw
      case rel => exact ⟨t - 1, out3, rfl, hbk3, HW3, has3⟩
      case measure => simp [intOf]; omega
    · have hvn : 0 ≤ val out := by
        rcases Int.lt_or_le (val out) 0 with h | h
        · exact absurd (sg.2 h) hneg
        · exact h
      have htq : t = val mid / val ys := by
        have := (Int.le_ediv_iff_mul_le (a := t) (b := val mid) hD).2 (by omega)
        omega
      have hmod : val out = val mid % val ys := by
        have := Int.mul_ediv_add_emod (val mid) (val ys)
        rw [hv, htq, Int.mul_comm]; omega
      have hlt2 : val out < 1000000000 ^ (n + 1) := by
        have := Int.emod_lt_of_pos (val mid) hD
        have e2 : (1000000000 : Int) ^ (n + 1) = 1000000000 ^ n * 1000000000 := Int.pow_succ ..
        omega
      have HO := hide (limbs_of_val hol (by omega) (by simpa using HW.out.low) hvn hlt2)
      have HM := hide hmod
      have HTQ := hide htq
      have HOL := hide hol
      have HAS := hide has
      have HBK2 := hide hbk
      generalize hz : out[n] = z at *
      clear e1 sg slo shi hv hvn hbk has htD0 htD1 hDn HW hmod hlt2 hz htq hol
      go_wp2_with fail
      go_ret
      exact ⟨ret_int HTQ.out, out, (by have := HBK2.out; rwa [List.append_assoc] at this), HOL.out, HO.out, HM.out, HAS.out⟩
end Go.Proofs.Ytdcceppednngjab

/-
  Long division by windows, as mathematics. Of no program.
-/

namespace Go.Proofs.Ytdcceppednngjab
open Go.RowKit
set_option linter.unusedVariables false

/-- how far the windows have come: k of them are left -/
structure LongS (dv : List Int) (D : Int) (T k : Nat) (rest Q : List Int) : Prop where
  rl : rest.length = dv.length - k
  ro : Limbs rest
  ql : Q.length = T - k
  qo : Limbs Q
  v : val (dv.drop k) = D * val Q + val rest
  lt : val rest < D
theorem small_take {l : List Int} {m : Nat} (h : Limbs l) (hv : val l < 1000000000 ^ m) (hm : m ≤ l.length) : val (l.take m) = val l ∧ val (l.drop m) = 0 := by
  have e : val l = val (l.take m) + 1000000000 ^ m * val (l.drop m) := by
    conv => lhs; rw [← List.take_append_drop m l, val_append, List.length_take, Nat.min_eq_left hm]
  have a0 := val_nonneg (h.take m)
  have a1 := val_nonneg (h.drop m)
  have hp := pow_pos' m
  have hz : val (l.drop m) = 0 := by
    rcases Int.lt_or_le 0 (val (l.drop m)) with h' | h'
    · have := Int.mul_le_mul_of_nonneg_left (show 1 ≤ val (l.drop m) by omega) (Int.le_of_lt hp)
      omega
    · omega
  rw [hz, Int.mul_zero] at e
  exact ⟨by omega, hz⟩
/-- the window at place j -/
theorem LongS.win {dv rest Q : List Int} {D : Int} {T j m : Nat} (h : LongS dv D T (j + 1) rest Q) (hdv : Limbs dv) (hj : j < dv.length) (hD : D < 1000000000 ^ m) (hm : m ≤ rest.length) :
    val (dv[j] :: rest.take m) = dv[j] + 1000000000 * val rest ∧ Limbs (dv[j] :: rest.take m) ∧ val (dv[j] :: rest.take m) < 1000000000 * D := by
  obtain ⟨e1, e2⟩ := small_take h.ro (Int.lt_trans h.lt hD) hm
  have hd := hdv dv[j] (List.getElem_mem _)
  have hl := h.lt
  refine ⟨by rw [val, e1], Limbs.mk hd (h.ro.take m), ?_⟩
  rw [val, e1]
  omega
theorem LongS.next {dv rest Q out : List Int} {D : Int} {T j m : Nat} (h : LongS dv D T (j + 1) rest Q) (hdv : Limbs dv) (hj : j < dv.length) (hD : D < 1000000000 ^ m) (hm : m ≤ rest.length) (hjT : j < T) (hD0 : 0 < D)
    (ol : out.length = m + 1) (oo : Limbs out) (ov : val out = val (dv[j] :: rest.take m) % D) : LongS dv D T j (out ++ rest.drop m) (val (dv[j] :: rest.take m) / D :: Q) := by
  obtain ⟨w1, w2, w3⟩ := h.win hdv hj hD hm
  obtain ⟨e1, e2⟩ := small_take h.ro (Int.lt_trans h.lt hD) hm
  have hmod := Int.mul_ediv_add_emod (val (dv[j] :: rest.take m)) D
  have hm1 := Int.emod_lt_of_pos (val (dv[j] :: rest.take m)) hD0
  have hq0 : 0 ≤ val (dv[j] :: rest.take m) / D := Int.ediv_nonneg (val_nonneg w2) (Int.le_of_lt hD0)
  have hq1 : val (dv[j] :: rest.take m) / D < 1000000000 := Int.ediv_lt_of_lt_mul hD0 w3
  have hv := val_drop hj
  have hrv : val (out ++ rest.drop m) = val out := by rw [val_append, e2]; simp
  have hrl := h.rl
  refine ⟨?_, oo.append (h.ro.drop m), ?_, Limbs.mk ⟨hq0, by omega⟩ h.qo, ?_, ?_⟩
  · rw [List.length_append, ol, List.length_drop, hrl]; omega
  · rw [List.length_cons, h.ql]; omega
  · rw [hrv, hv, h.v, val]
    generalize hq : val (dv[j] :: rest.take m) / D = q at *
    have e : D * (1000000000 * val Q) = 1000000000 * (D * val Q) := by rw [Int.mul_left_comm]
    rw [Int.mul_add D q, e]
    omega
  · rw [hrv]; omega
/-- the divisor, made great: its limbs, as many as before -/
theorem scaled_div {ys : List Int} {m : Nat} (hc : Canon ys) (hl : ys.length = m) (hm : 0 < m) : 1 ≤ 1000000000 / (ys[m - 1] + 1) ∧ 1000000000 / (ys[m - 1] + 1) ≤ 500000000 ∧ 1000000000 / (ys[m - 1] + 1) * val ys < 1000000000 ^ m ∧ 1000000000 / (ys[m - 1] + 1) * 1000000000 ^ (m - 1) ≤ 1000000000 / (ys[m - 1] + 1) * val ys := by
  have ht := top_pos hc hl hm
  have e2 := val_top1 hl hm
  have a1 := val_lt (hc.1.take (m - 1))
  have a2 := val_nonneg (hc.1.take (m - 1))
  rw [List.length_take, Nat.min_eq_left (by omega)] at a1
  have hge := val_ge_canon hc (by omega)
  rw [hl] at hge
  generalize ys[m - 1] = t at *
  have s1 : 1 ≤ 1000000000 / (t + 1) := (Int.le_ediv_iff_mul_le (by omega)).2 (by omega)
  have s3 : 1000000000 / (t + 1) * (t + 1) ≤ 1000000000 := (Int.le_ediv_iff_mul_le (by omega)).1 (Int.le_refl _)
  have s2 : 1000000000 / (t + 1) ≤ 500000000 := by
    have : 1000000000 / (t + 1) * 2 ≤ 1000000000 / (t + 1) * (t + 1) := Int.mul_le_mul_of_nonneg_left (by omega) (by omega)
    omega
  generalize 1000000000 / (t + 1) = s at *
  have hp := pow_pos' (m - 1)
  have e3 : (1000000000 : Int) ^ m = 1000000000 ^ (m - 1) * 1000000000 := by rw [← Int.pow_succ]; congr 1; omega
  refine ⟨s1, s2, ?_, Int.mul_le_mul_of_nonneg_left hge (by omega)⟩
  have b1 : s * val ys < s * (1000000000 ^ (m - 1) * (t + 1)) := Int.mul_lt_mul_of_pos_left (by rw [Int.mul_add, Int.mul_one]; omega) (by omega)
  have b2 : s * (1000000000 ^ (m - 1) * (t + 1)) = 1000000000 ^ (m - 1) * (s * (t + 1)) := Int.mul_left_comm ..
  have b3 : 1000000000 ^ (m - 1) * (s * (t + 1)) ≤ 1000000000 ^ (m - 1) * 1000000000 := Int.mul_le_mul_of_nonneg_left s3 (Int.le_of_lt hp)
  omega
theorem limbs_len_eq {n k : Nat} (h1 : n < 1000000000 ^ k) (h2 : 1000000000 ^ (k - 1) ≤ n) (hk : 0 < k) : (limbs n).length = k := by
  have a := limbs_len.2 h1
  have b : ¬ (limbs n).length ≤ k - 1 := fun h => by have := limbs_len.1 h; omega
  omega
/-- the first remainder is small -/
theorem long_start {dv xs ys : List Int} {n m : Nat} {s : Int} (hx : Limbs xs) (hxn : xs.length = n) (hm : 0 < m) (hmn : m ≤ n) (hdl : dv.length = n + 1) (hdo : Limbs dv) (hdv : val dv = s * val xs) (hs : 1 ≤ s) (hy : s * 1000000000 ^ (m - 1) ≤ s * val ys) : LongS dv (s * val ys) (n - m + 1) (n - m + 1) (dv.drop (n - m + 1)) [] := by
  refine ⟨by rw [List.length_drop], hdo.drop _, by simp, Limbs.nil, by simp [val], ?_⟩
  have e : val dv = val (dv.take (n - m + 1)) + 1000000000 ^ (n - m + 1) * val (dv.drop (n - m + 1)) := by
    conv => lhs; rw [← List.take_append_drop (n - m + 1) dv, val_append, List.length_take, Nat.min_eq_left (by omega)]
  have a0 := val_nonneg (hdo.take (n - m + 1))
  have a1 := val_lt hx
  rw [hxn] at a1
  have b1 : s * val xs < s * 1000000000 ^ n := Int.mul_lt_mul_of_pos_left a1 (by omega)
  have e3 : (1000000000 : Int) ^ n = 1000000000 ^ (n - m + 1) * 1000000000 ^ (m - 1) := by rw [← Int.pow_add]; congr 1; omega
  rw [e3, Int.mul_left_comm] at b1
  have := Int.lt_of_mul_lt_mul_left (show 1000000000 ^ (n - m + 1) * val (dv.drop (n - m + 1)) < 1000000000 ^ (n - m + 1) * (s * 1000000000 ^ (m - 1)) by omega) (Int.le_of_lt (pow_pos' _))
  omega
/-- what the windows leave -/
theorem long_end {dv rest Q : List Int} {X Y s : Int} {T : Nat} (h : LongS dv (s * Y) T 0 rest Q) (hdv : val dv = s * X) (hs : 1 ≤ s) (hY : 0 < Y) : val Q = X / Y ∧ val rest / s = X % Y := by
  have hv := h.v
  rw [List.drop_zero, hdv] at hv
  have hr0 := val_nonneg h.ro
  have hr1 := h.lt
  have e : val rest = s * (X - Y * val Q) := by rw [Int.mul_sub, ← Int.mul_assoc]; omega
  have hs0 : (0 : Int) < s := by omega
  rw [e] at hr0 hr1
  have c0 : 0 ≤ X - Y * val Q := by
    rcases Int.lt_or_le (X - Y * val Q) 0 with h' | h'
    · have := Int.mul_neg_of_pos_of_neg hs0 h'; omega
    · exact h'
  have c1 : X - Y * val Q < Y := Int.lt_of_mul_lt_mul_left hr1 (Int.le_of_lt hs0)
  have hq : val Q = X / Y := by
    rw [show X = (X - Y * val Q) + Y * val Q by omega, Int.add_mul_ediv_left _ _ (by omega), Int.ediv_eq_zero_of_lt c0 c1]; omega
  refine ⟨hq, ?_⟩
  rw [e, Int.mul_ediv_cancel_left _ (by omega), hq, Int.emod_def]
end Go.Proofs.Ytdcceppednngjab

/-
  The program's natural numbers: contracts (8): divideLimbs, NatDiv.
-/


namespace Go.Proofs.Ytdcceppednngjab
open Go.RowKit
set_option linter.unusedVariables false

theorem Own.addr {w : World} {lo hi n c : Nat} {E : TypeId} {A : Option Addr} {xs : List Value} (o : Own w lo hi E (.slice A n c) n xs) (h0 : 0 < n) : ∃ ad, A = some ad ∧ lo ≤ ad.block ∧ ad.block < hi := by
  rcases o.2 with ⟨h1, h2⟩ | ⟨g, c', cur, hv, hb, hg, _⟩
  · omega
  · injection hv with hv _ _
    exact ⟨_, hv, hb, hg⟩
theorem Two.of {w w' : World} {E : TypeId} {v1 v2 : Value} {xs ys : List Int} {l1 h1 l2 h2 : Nat} (a : Own w' l1 h1 E v1 xs.length (iv xs)) (b : Own w' l2 h2 E v2 ys.length (iv ys)) (e1 : w.heap.size ≤ l1) (e2 : w.heap.size ≤ l2) (e3 : h1 ≤ w'.heap.size) (e4 : h2 ≤ w'.heap.size) (e5 : h1 ≤ l2 ∨ h2 ≤ l1) : Two w w' E v1 xs v2 ys := ⟨l1, h1, l2, h2, a, b, e1, e2, e3, e4, e5⟩
set_option maxHeartbeats 1600000 in
theorem impl_Div_less (w : World) (B : Nat) (hB : B ≤ w.heap.size) (A A' : Option Addr) (n m c c' : Nat) (xs ys : List Int) (hn : xs.length = n) (hm : ys.length = m) (hx : Rd w B A (iv xs)) (hl : n ≤ 10000) (hl' : m ≤ 10000) (hcx : Canon xs) (hcy : Canon ys) (hnm : n < m) :
    Calls Try.prog 59 #[.slice A n c, .slice A' m c'] w fun e w' => ∃ v1 v2, e = .returned (.tuple #[v1, v2]) ∧ Two w w' 3 v1 (limbs (val xs / val ys).toNat) v2 (limbs (val xs % val ys).toNat) ∧ Below w.heap.size w w' := by
  have hlt := val_lt_len hcx.1 hcy (by omega)
  have h0 := val_nonneg hcx.1
  have HE : Hid (limbs (val xs / val ys).toNat = [] ∧ limbs (val xs % val ys).toNat = xs) := by
    refine ⟨?_, ?_⟩
    · rw [Int.ediv_eq_zero_of_lt h0 hlt]; exact limbs_zero
    · rw [Int.emod_eq_of_lt h0 hlt]; exact limbs_val hcx
  have HW := hide (impl_widened w B hB A n c n xs hn hx (Nat.le_refl _) (by omega))
  have HN := hide hn
  clear hx hcx hcy hn hm
  go_enter Try.func59, Try.ntmps59
  go_wp2_with fail
  refine HW.out.mono ?_
  rintro e w1 ⟨g, rfl, hg, hblk, hb⟩
  have HO := hide (hblk.own n n (by simp [HN.out]) (by simp [HN.out]))
  have hgs := hblk.lt
  clear hblk
  go_wp2_with fail
  go_ret2
  refine ⟨_, _, rfl, ?_, hb⟩
  rw [HE.out.1, HE.out.2]
  refine Two.of (Own.nil _ w.heap.size w.heap.size _) (l2 := g) (h2 := g + 1) ?_ (Nat.le_refl _) hg hb.size hgs (.inl hg)
  have := HO.out
  rw [Nat.sub_self, List.replicate_zero, List.append_nil, List.take_of_length_le (by rw [HN.out]; omega)] at this
  rw [HN.out]
  exact this
set_option maxHeartbeats 1600000 in
theorem impl_Div_one (w : World) (B : Nat) (hB : B ≤ w.heap.size) (A A' : Option Addr) (n c c' : Nat) (xs : List Int) (d : Int) (hn : xs.length = n) (hx : Rd w B A (iv xs)) (hy : Rd w B A' (iv [d])) (hl : n ≤ 10000) (hcx : Canon xs) (hd0 : 1 ≤ d) (hd1 : d ≤ 999999999) (hn0 : 1 ≤ n) :
    Calls Try.prog 59 #[.slice A n c, .slice A' 1 c'] w fun e w' => ∃ v1 v2, e = .returned (.tuple #[v1, v2]) ∧ Two w w' 3 v1 (limbs (val xs / d).toNat) v2 (limbs (val xs % d).toNat) ∧ Below w.heap.size w w' := by
  obtain ⟨ad, hA, hb1, hc1⟩ := hy.int (k := 0) (by simp)
  have hc1' : w.cell? ad = some (.int .i64 d) := by have : w.cell? (ad.add 0) = some (.int .i64 d) := hc1
                                                    rwa [add_zero'] at this
  have HS := hide (impl_ByLimb w B hB A n c xs d hn hx (by omega) hcx.1 hd0 hd1)
  have hr0 := Int.emod_nonneg (val xs) (show d ≠ 0 by omega)
  have hr1 := Int.emod_lt_of_pos (val xs) (show 0 < d by omega)
  generalize val xs % d = r at *
  have HO := hide (fun w1 : World => impl_NatOf w1 w1.heap.size (Nat.le_refl _) r (WalkArith.wf_i64 ⟨by omega, by omega⟩))
  clear hx hy hcx hc1
  subst hA
  go_enter Try.func59, Try.ntmps59
  go_wp2_with fail
  refine HS.out.mono ?_
  rintro e w1 ⟨v1, rfl, o1, hb1⟩
  have O1 := hide o1
  have HB1 := hide hb1
  have hs1 := hb1.size
  clear o1 hb1
  go_wp2_with fail
  refine (HO.out w1).mono ?_
  rintro e w2 ⟨v2, rfl, o2, hb2⟩
  have O2 := hide o2
  have HB2 := hide hb2
  have hs2 := hb2.size
  clear o2 hb2
  go_wp2_with fail
  go_ret2
  exact ⟨_, _, rfl, Two.of (O1.out.below HB2.out (Nat.le_refl _)) O2.out (Nat.le_refl _) hs1 hs2 (Nat.le_refl _) (.inl (Nat.le_refl _)), HB1.out.trans (HB2.out.mono hs1)⟩

set_option maxRecDepth 100000 in
set_option maxHeartbeats 6400000 in
theorem impl_Div_long (w : World) (B : Nat) (hB : B ≤ w.heap.size) (A A' : Option Addr) (n m c c' : Nat) (xs ys : List Int) (hn : xs.length = n) (hm : ys.length = m) (hx : Rd w B A (iv xs)) (hy : Rd w B A' (iv ys)) (hl : n ≤ 10000) (hcx : Canon xs) (hcy : Canon ys) (hmn : m ≤ n) (hm2 : 2 ≤ m) :
    Calls Try.prog 59 #[.slice A n c, .slice A' m c'] w fun e w' => ∃ v1 v2, e = .returned (.tuple #[v1, v2]) ∧ Two w w' 3 v1 (limbs (val xs / val ys).toNat) v2 (limbs (val xs % val ys).toNat) ∧ Below w.heap.size w w' := by
  have hYp : 0 < val ys := val_pos hcy (fun e => by subst e; simp at hm; omega)
  have hX0 := val_nonneg hcx.1
  obtain ⟨s1, s2, s3, s4⟩ := scaled_div hcy hm (by omega)
  have htop := top_pos hcy hm (by omega)
  obtain ⟨ad, hA, hab, hc1⟩ := hy.int (k := m - 1) (by omega)
  obtain ⟨t, ht⟩ : ∃ t, t = ys[m - 1] := ⟨_, rfl⟩
  rw [← ht] at s1 s2 s3 s4 htop hc1
  obtain ⟨s, hs⟩ : ∃ s, s = 1000000000 / (t + 1) := ⟨_, rfl⟩
  rw [← hs] at s1 s2 s3 s4
  have hsd : (1000000000 : Int).tdiv (t + 1) = s := by rw [hs]; exact Int.tdiv_eq_ediv_of_nonneg (by omega)
  -- the divisor
  obtain ⟨N, hN⟩ : ∃ N : Nat, (N : Int) = s * val ys := ⟨(s * val ys).toNat, by have := Int.mul_nonneg (show (0 : Int) ≤ s by omega) (Int.le_of_lt hYp); omega⟩
  have hNl : (limbs N).length = m := limbs_len_eq (by
      rw [pow_cast, ← hN] at s3
      exact Int.ofNat_lt.1 s3) (by
      have h1 : (1000000000 : Int) ^ (m - 1) ≤ s * 1000000000 ^ (m - 1) := by
        have := Int.mul_le_mul_of_nonneg_right s1 (Int.le_of_lt (pow_pos' (m - 1)))
        omega
      rw [pow_cast] at h1 s4
      exact Int.ofNat_le.1 (by omega)) (by omega)
  have hND : (N : Int) < 1000000000 ^ m := by rw [hN]; exact s3
  have hN0 : 0 < (N : Int) := by rw [hN]; exact Int.mul_pos (by omega) hYp
  have HTR : Hid (∀ out : List Int, out.length = m + 1 → Limbs (out.take m) → val out = s * val ys → trim out = limbs N) := fun out hl2 ho hv =>
    trim_eq (limbs_of_val hl2 (by omega) (by simpa using ho) (by omega) (by
      have e2 : (1000000000 : Int) ^ (m + 1) = 1000000000 ^ m * 1000000000 := Int.pow_succ ..
      have hp := pow_pos' m
      omega)) (by omega)
  -- the dividend
  have HDV : Hid (∀ out : List Int, out.length = n + 1 → Limbs (out.take n) → val out = s * val xs → Limbs out) := fun out hl2 ho hv => by
    have a1 := val_lt hcx.1
    rw [hn] at a1
    have e2 : (1000000000 : Int) ^ (n + 1) = 1000000000 ^ n * 1000000000 := Int.pow_succ ..
    have b1 : s * val xs ≤ 1000000000 * val xs := Int.mul_le_mul_of_nonneg_right (by omega) hX0
    exact limbs_of_val hl2 (by omega) (by simpa using ho) (by rw [hv]; exact Int.mul_nonneg (by omega) hX0) (by omega)
  have HST : Hid (∀ out : List Int, out.length = n + 1 → Limbs out → val out = s * val xs → LongS out N (n - m + 1) (n - m + 1) (out.drop (n - m + 1)) []) := fun out hl2 ho hv => by
    have := long_start hcx.1 hn (by omega) hmn hl2 ho hv s1 s4
    rwa [← hN] at this
  have HEND : Hid (∀ (dv rest Q : List Int), val dv = s * val xs → LongS dv N (n - m + 1) 0 rest Q → val Q = val xs / val ys ∧ val rest / s = val xs % val ys) := fun dv rest Q hdv h => by
    rw [hN] at h
    exact long_end h hdv s1 hYp
  have HS1 := hide (impl_scaled w B hB A n c xs s hn hx (by omega) hcx.1 (by omega))
  have HS2 := hide (fun (w1 : World) (hb : Below w.heap.size w w1) => impl_scaled w1 B (by have := hb.size; omega) A' m c' ys s hm (hy.below (hb.mono hB)) (by omega) hcy.1 (by omega))
  have HNN := hide hN
  have hmm : ((m : Int) == 1) = false := by simp; omega
  have hnlt : ¬ ((n : Int) < (m : Int)) := by omega
  have hq0 := Int.ediv_nonneg hX0 (Int.le_of_lt hYp)
  clear hs ht s3 s4 hN hx hy hcx hcy
  subst hA
  go_enter Try.func59, Try.ntmps59
  go_wp2_with fail
  refine HS1.out.mono ?_
  rintro e w1 ⟨g1, dv, rfl, hg1, hblk1, hdl, hdlo, hdvv, hb1⟩
  have HDO := hide (HDV.out dv hdl hdlo hdvv)
  have HLS := hide (HST.out dv hdl HDO.out hdvv)
  have HDE := hide (fun rest Q => HEND.out dv rest Q hdvv)
  have HB1 := hide hblk1
  have HBL1 := hide hb1
  have hs1 := hb1.size
  have hgl1 := hblk1.lt
  clear hblk1 hdlo hdvv hb1 HDV HST HEND HS1
  go_wp2_with fail
  refine (HS2.out w1 HBL1.out).mono ?_
  rintro e w2 ⟨g2, o2, rfl, hg2, hblk2, hl2, hlo2, hv2, hb2⟩
  have hT2 := HTR.out o2 hl2 hlo2 hv2
  have hgl2 := hblk2.lt
  have HZ := hide (impl_cutZeros w2 g2 (g2 + 1) (some ⟨g2, 0, none⟩) (m + 1) (m + 1) o2 (by have := hblk2.own (m + 1) (m + 1) (by omega); rwa [List.take_of_length_le (by omega)] at this) (Nat.le_refl _) (by unfold maxLen; omega))
  rw [hT2, hNl] at HZ
  have HB2 := hide (HB1.out.below hb2 hgl1)
  have HBL2 := hide (HBL1.out.trans (hb2.mono hs1))
  have hs2 := hb2.size
  clear hT2 hblk2 hl2 hlo2 hv2 hb2 HTR HS2
  go_wp2_with fail
  refine HZ.out.mono ?_
  rintro e w' ⟨v, rfl, od, ⟨A2, rfl⟩, rfl⟩
  obtain ⟨T, hT⟩ : ∃ T : Nat, T = n - m + 1 := ⟨_, rfl⟩
  have hTe : (n : Int) - (m : Int) + 1 = (T : Int) := by omega
  rw [← hT] at HLS HDE
  obtain ⟨i0, hi0, hz0, hz1, hz2⟩ := info_parts Try.infoInt
  obtain ⟨w3, hmk, hown0, hg0⟩ := run_make_full (P := Try.prog) w2 w2.heap.size 28 3 i0 _ 1 Try.underlying28 hi0 hz0 hz1 .i64 .i64 T (by rw [hz2]; omega) (by unfold maxLen; omega) (Nat.le_refl _)
  have hb3 : Below w2.heap.size w2 w3 := (Below.refl _ _).grown hg0 (Nat.le_refl _) (fun k h => by cases h)
  rw [made_zeros] at hown0
  have hbq : Blk w3 w2.heap.size 3 (List.replicate T 0 ++ []) := by unfold Blk; rw [List.append_nil, List.length_replicate]; exact hown0
  have hbd : Blk w3 g1 3 (dv.take T ++ dv.drop T) := by rw [List.take_append_drop]; exact HB2.out.below hb3 (by omega)
  have hod := od.below hb3 (by omega)
  have hbl3 := HBL2.out.trans (hb3.mono (by omega))
  have hgl3 := hbq.lt
  obtain ⟨g3, hg3⟩ : ∃ g3, g3 = w2.heap.size := ⟨_, rfl⟩
  rw [← hg3] at hbq hgl3
  have HG3 := hide hg3
  have hgg : g1 < g2 ∧ g2 < g3 ∧ w.heap.size ≤ g1 := by omega
  have hTm : T + m = n + 1 := by omega
  clear hi0 hz0 hz1 hz2 hg0 hown0 HZ HBL1 HBL2 HB1 HB2 hb3 od hs1 hs2 hgl1 hgl2 hg1 hg2 hT hg3
  go_wp2_with fail
  rw [← HG3.out]
  clear HG3
  clear hmk
  go_loopw [13] (fun i wr => ∃ (k : Nat) (rest Q : List Int), k ≤ T ∧ i = .int .i64 ((k : Int) - 1) ∧ Blk wr g1 3 (dv.take k ++ rest) ∧ Blk wr g3 3 (List.replicate k 0 ++ Q) ∧ Own wr g2 (g2 + 1) 3 (.slice A2 m m) m (iv (limbs N)) ∧ Hid (LongS dv N T k rest Q) ∧ Below w.heap.size w wr) (fun i _ => (intOf i + 1).toNat)
  case atStart => exact ⟨T, dv.drop T, [], Nat.le_refl _, (by show Value.int IntKind.i64 _ = Value.int IntKind.i64 _; rw [show (n : Int) - (m : Int) = (T : Int) - 1 by omega]), hbd, hbq, hod, HLS, hbl3⟩
  case round =>
    clear hbd hbq hod hbl3 HLS hgl3
    obtain ⟨k, rest, Q, hk, rfl, hbd, hbq, hod, L, hbl⟩ := hrel
    have hrl := L.out.rl
    have hql := L.out.ql
    have hgl := hbq.lt
    have hws := hbl.size
    by_cases hk0 : k = 0
    · subst hk0
      rw [List.replicate_zero, List.nil_append] at hbq
      rw [List.take_zero, List.nil_append] at hbd
      obtain ⟨hvq, hvr⟩ := HDE.out rest Q L.out
      have hro := L.out.ro
      obtain ⟨et, _⟩ := small_take hro (Int.lt_trans L.out.lt hND) (by omega)
      have HB := impl_ByLimb wr wr.heap.size (Nat.le_refl _) (some ⟨g1, 0, none⟩) m m (rest.take m) s (by rw [List.length_take]; omega) (hbd.own m m (by omega)).rd (by omega) (hro.take m) (by omega) (by omega)
      rw [et, hvr] at HB
      have HBL := hide HB
      have HTQ : Hid (trim Q = limbs (val xs / val ys).toNat) := trim_eq L.out.qo (by rw [hvq]; omega)
      have HQL : Hid (Q.length = T) := by show _ = _; omega
      have HBQ := hide hbq
      have hgl1 := hbd.lt
      have HBL0 := hide hbl
      generalize val rest % s = rr at *
      clear HB hvq hvr hro et hbd hbq hod L hrl hql hbl
      go_wp2_with fail
      refine HBL.out.mono ?_
      rintro e w5 ⟨v5, rfl, o5, hb5⟩
      have hs5 := hb5.size
      have hbq5 := HBQ.out.below hb5 hgl
      have HZ := hide (impl_cutZeros w5 g3 (g3 + 1) (some ⟨g3, 0, none⟩) T T Q (by have := hbq5.own T T (by have := HQL.out; omega) (by have := HQL.out; omega); rwa [List.take_of_length_le (by have := HQL.out; omega)] at this) (Nat.le_refl _) (by unfold maxLen; omega))
      have HBL5 := hide (HBL0.out.trans (hb5.mono (by omega)))
      have HO5 := hide o5
      clear o5 hb5 hbq5 HBQ HBL HBL0
      go_wp2_with fail
      refine HZ.out.mono ?_
      rintro e w' ⟨v6, rfl, o6, _, rfl⟩
      rw [HTQ.out] at o6
      have HO6 := hide o6
      clear o6 HZ
      go_wp2_with fail
      go_ret2
      exact ⟨_, _, rfl, Two.of HO6.out HO5.out (by omega) (by omega) (by omega) (Nat.le_refl _) (.inl (by omega)), HBL5.out⟩
    · obtain ⟨j, rfl⟩ : ∃ j, k = j + 1 := ⟨k - 1, by omega⟩
      rw [show (((j + 1 : Nat) : Int) - 1) = (j : Int) by omega]
      obtain ⟨wv, wo, wl⟩ := L.out.win HDO.out (show j < dv.length by omega) hND (by omega)
      have HNX := hide (fun out => L.out.next (out := out) HDO.out (show j < dv.length by omega) hND (by omega) (by omega) hN0)
      have hsplit : dv.take (j + 1) ++ rest = dv.take j ++ (dv[j] :: rest.take m) ++ rest.drop m := by
        rw [List.take_succ_eq_append_getElem (show j < dv.length by omega), List.append_assoc, List.append_assoc, List.cons_append, List.cons_append, List.nil_append, List.take_append_drop]
      have HWN := impl_Window wr g1 j m (m + 1) wr.heap.size m A2 (dv.take j) (dv[j] :: rest.take m) (rest.drop m) (limbs N) (by rw [← hsplit]; exact hbd) (by rw [List.length_take]; omega) (by rw [List.length_cons, List.length_take]; omega) hNl hm2 (by omega) wo (limbs_canon N) (by rw [val_limbs]; exact wl) hod.rd (Nat.le_refl _) (fun ad' e => by
        obtain ⟨ad2, e2, h1, h2⟩ := hod.addr (by omega)
        rw [e] at e2; injection e2 with e2; subst e2; omega)
      rw [val_limbs] at HWN
      have HW := hide HWN
      have HBQ := hide hbq
      have HOD := hide hod
      have HBL := hide hbl
      generalize hq : val (dv[j] :: rest.take m) / (N : Int) = q at *
      have HQQ := hide hq
      clear HWN wv wo wl hsplit hbd hbq hod hbl hq L
      go_wp2_with fail
      rw [show j + m + 1 - j = m + 1 by omega]
      refine HW.out.mono ?_
      rintro e w4 ⟨out, rfl, hblk4, hol, hoo, hov, ha4⟩
      have HS := hide (HNX.out out hol hoo hov)
      have hbq4 := HBQ.out.aside ha4 (by omega)
      have hj1 : j < (List.replicate (j + 1) 0 ++ Q).length := by simp; omega
      have hcell := hbq4.cell hj1
      have hfz := hbq4.frozen j
      have HB5 := hide (hbq4.set j q)
      rw [zset] at HB5
      have ha5 : Aside g3 (g3 + 1) w4 (w4.setCell ⟨g3, j, none⟩ (.int .i64 q)) := (Aside.refl _).setCell (a := ⟨g3, j, none⟩) (Nat.le_refl _) (Nat.lt_succ_self _) (.int .i64 q)
      have HD5 := hide (hblk4.aside ha5 (by omega))
      have HO5 := hide ((HOD.out.aside ha4 (by omega)).aside ha5 (by omega))
      have HBL5 := hide ((HBL.out.trans (ha4.below (by omega) (by omega))).trans (ha5.below (by omega) (by have := ha4.size; omega)))
      generalize (List.replicate (j + 1) 0 ++ Q)[j] = z at *
      have hjT : (j : Int) < (T : Int) := by omega
      clear hblk4 hol hoo hov ha4 ha5 hbq4 hj1 HW HNX HBQ HOD HBL
      go_wp2_with fail
      go_roundw
      case rel => exact ⟨j, out ++ rest.drop m, q :: Q, by omega, rfl, by rw [← List.append_assoc]; exact HD5.out, HB5.out, HO5.out, HS.out, HBL5.out⟩
      case measure => simp [intOf]

theorem impl_Div (w : World) (B : Nat) (hB : B ≤ w.heap.size) (A A' : Option Addr) (n m c c' : Nat) (xs ys : List Int) (hn : xs.length = n) (hm : ys.length = m) (hx : Rd w B A (iv xs)) (hy : Rd w B A' (iv ys)) (hl : n ≤ 10000) (hl' : m ≤ 10000) (hcx : Canon xs) (hcy : Canon ys) (h0 : 0 < m) :
    Calls Try.prog 59 #[.slice A n c, .slice A' m c'] w fun e w' => ∃ v1 v2, e = .returned (.tuple #[v1, v2]) ∧ Two w w' 3 v1 (limbs (val xs / val ys).toNat) v2 (limbs (val xs % val ys).toNat) ∧ Below w.heap.size w w' := by
  by_cases hnm : n < m
  · exact impl_Div_less w B hB A A' n m c c' xs ys hn hm hx hl hl' hcx hcy hnm
  · by_cases hm1 : m = 1
    · subst hm1
      obtain ⟨d, rfl⟩ : ∃ d, ys = [d] := by
        match ys, hm with
        | [d], _ => exact ⟨d, rfl⟩
        | [], h => simp at h
        | _ :: _ :: _, h => simp at h
      have hd := top_pos hcy hm (by omega)
      have hdv : val [d] = d := by simp [val]
      rw [hdv]
      exact impl_Div_one w B hB A A' n c c' xs d hn hx hy hl hcx hd.1 hd.2 (by omega)
    · exact impl_Div_long w B hB A A' n m c c' xs ys hn hm hx hy hl hcx hcy (by omega) (by omega)
set_option maxHeartbeats 1600000 in
theorem impl_NatDiv (w : World) (B : Nat) (hB : B ≤ w.heap.size) (A0 : Option Addr) (n0 c0 : Nat) (xs0 : List Int) (R0 : RdI w B A0 n0 xs0) (A1 : Option Addr) (n1 c1 : Nat) (xs1 : List Int) (R1 : RdI w B A1 n1 xs1) :
    Calls Try.prog 41 #[.slice A0 n0 c0, .slice A1 n1 c1] w fun e w' => ∃ v1 v2, e = .returned (.tuple #[v1, v2]) ∧ Two w w' 3 v1 (quoL xs0 xs1) v2 (remL xs0 xs1) ∧ Below w.heap.size w w' := by
  have H0 := hide (impl_NatOk w B hB A0 n0 c0 xs0 R0)
  have H1 := hide (impl_NatOk w B hB A1 n1 c1 xs1 R1)
  have hn1 := R1.1
  by_cases h0 : natB xs0 = true
  · by_cases h1 : natB xs1 = true
    · by_cases hz : n1 = 0
      · have HE : Hid (quoL xs0 xs1 = [] ∧ remL xs0 xs1 = []) := by
          have : xs1 = [] := List.eq_nil_of_length_eq_zero (by omega)
          exact ⟨quoL_nil (.inr (.inr this)), remL_nil (.inr (.inr this))⟩
        clear R0 R1
        subst hz
        go_enter Try.func41, Try.ntmps41
        go_wp2_with fail
        refine H0.out.mono ?_
        rintro e w' ⟨rfl, rfl⟩
        go_wp2_with fail
        refine H1.out.mono ?_
        rintro e w' ⟨rfl, rfl⟩
        go_wp2_with fail
        go_ret2
        exact ⟨_, _, rfl, by rw [HE.out.1, HE.out.2]; exact two_nil _ _, Below.refl _ _⟩
      · obtain ⟨k0, l0⟩ := (natB_iff xs0).1 h0
        obtain ⟨k1, l1⟩ := (natB_iff xs1).1 h1
        have hne : xs1 ≠ [] := fun e => by subst e; simp at hn1; omega
        have HD := impl_Div w B hB A0 A1 n0 n1 c0 c1 xs0 xs1 R0.1 R1.1 R0.2.1 R1.2.1 (by have := R0.1; omega) (by omega) k0 k1 (by omega)
        rw [quoL_ok h0 h1, remL_ok h0 h1 hne] at HD
        have HDD := hide HD
        have hz' : ((n1 : Int) == 0) = false := by simp; omega
        clear R0 R1 k0 k1 HD hne hz
        go_enter Try.func41, Try.ntmps41
        go_wp2_with fail
        refine H0.out.mono ?_
        rintro e w' ⟨rfl, rfl⟩
        go_wp2_with fail
        refine H1.out.mono ?_
        rintro e w' ⟨rfl, rfl⟩
        go_wp2_with fail
        refine HDD.out.mono ?_
        rintro e w2 ⟨v1, v2, rfl, hT, hb⟩
        have HT := hide hT
        clear hT
        go_wp2_with fail
        go_ret2
        exact ⟨_, _, rfl, HT.out, hb⟩
    · have h1' : natB xs1 = false := by simpa using h1
      have HE : Hid (quoL xs0 xs1 = [] ∧ remL xs0 xs1 = []) := ⟨quoL_nil (.inr (.inl h1')), remL_nil (.inr (.inl h1'))⟩
      clear R0 R1 h1
      go_enter Try.func41, Try.ntmps41
      go_wp2_with fail
      refine H0.out.mono ?_
      rintro e w' ⟨rfl, rfl⟩
      go_wp2_with fail
      refine H1.out.mono ?_
      rintro e w' ⟨rfl, rfl⟩
      go_wp2_with fail
      go_ret2
      exact ⟨_, _, rfl, by rw [HE.out.1, HE.out.2]; exact two_nil _ _, Below.refl _ _⟩
  · have h0' : natB xs0 = false := by simpa using h0
    have HE : Hid (quoL xs0 xs1 = [] ∧ remL xs0 xs1 = []) := ⟨quoL_nil (.inl h0'), remL_nil (.inl h0')⟩
    clear R0 R1 h0
    go_enter Try.func41, Try.ntmps41
    go_wp2_with fail
    refine H0.out.mono ?_
    rintro e w' ⟨rfl, rfl⟩
    go_wp2_with fail
    go_ret2
    exact ⟨_, _, rfl, by rw [HE.out.1, HE.out.2]; exact two_nil _ _, Below.refl _ _⟩
end Go.Proofs.Ytdcceppednngjab
