/-
  The program's natural numbers: contracts (7): divideWindow, divideLimbs, NatDiv.
-/
import Derived.Test.YtcainjgcfbgddaaNatI6
import Derived.Deep.QuietTactic
import Derived.BigQuiet
import Derived.IntWalk
namespace Go.Proofs.Ytcainjgcfbgddaa
open Go.RowKit
set_option linter.unusedVariables false

theorem Below.asides {w w' : World} (h : Below w.heap.size w w') (lo hi : Nat) : Aside lo hi w w' := ⟨h.os, h.tape, h.output, h.size, fun k hk _ => h.block k hk⟩
/-- the window, told for a round: the quotient that is tried, and what it leaves -/
structure WinS (mid ys out : List Int) (n : Nat) (t : Int) : Prop where
  len : out.length = n + 1
  low : Limbs (out.take n)
  v : val out = val mid - t * val ys
  ge : val mid / val ys ≤ t
  b0 : 0 ≤ t
  b1 : t ≤ 999999999
set_option maxHeartbeats 3200000 in
theorem impl_Window (w : World) (g off n cw : Nat) (B c : Nat) (A : Option Addr) (pre mid post ys : List Int)
    (hblk : Blk w g 3 (pre ++ mid ++ post)) (hoff : pre.length = off) (hm : mid.length = n + 1) (hy : ys.length = n) (hn : 2 ≤ n) (hbig : off + n ≤ 100000)
    (hlm : Limbs mid) (hcy : Canon ys) (hlt : val mid < 1000000000 * val ys) (hry : Rd w B A (iv ys)) (hB : B ≤ w.heap.size) (hsep : ∀ ad, A = some ad → ad.block < g ∨ g + 1 ≤ ad.block) :
    Calls Try.prog 95 #[.slice (some ⟨g, off, none⟩) (n + 1) cw, .slice A n c] w fun e w' => ∃ out, e = .returned (.int .i64 (val mid / val ys)) ∧ Blk w' g 3 (pre ++ out ++ post) ∧ out.length = n + 1 ∧ Limbs out ∧ val out = val mid % val ys ∧ Aside g (g + 1) w w' := by
  subst hoff
  have hD : 0 < val ys := val_pos hcy (fun e => by subst e; simp at hy; omega)
  have htop := top_pos hcy hy (by omega)
  have hV0 := val_nonneg hlm
  have hq0 : 0 ≤ val mid / val ys := Int.ediv_nonneg hV0 (Int.le_of_lt hD)
  have hq1 : val mid / val ys ≤ 999999999 := by
    have := Int.ediv_lt_of_lt_mul hD hlt
    omega
  have hqm : val mid / val ys * val ys ≤ val mid := (Int.le_ediv_iff_mul_le hD).1 (Int.le_refl _)
  have hguess := guess_ge hm hy (by omega) hlm hcy.1 (by omega) hqm hq0
  have hc1 := hblk.cell (j := pre.length + n) (by simp only [List.length_append]; omega)
  have hc2 := hblk.cell (j := pre.length + (n - 1)) (by simp only [List.length_append]; omega)
  have e1 : (pre ++ mid ++ post)[pre.length + n]'(by simp only [List.length_append]; omega) = mid[n] := by
    rw [List.getElem_append_left (by simp only [List.length_append]; omega), List.getElem_append_right (by omega)]
    congr 1; omega
  have e2 : (pre ++ mid ++ post)[pre.length + (n - 1)]'(by simp only [List.length_append]; omega) = mid[n - 1] := by
    rw [List.getElem_append_left (by simp only [List.length_append]; omega), List.getElem_append_right (by omega)]
    congr 1; omega
  rw [e1] at hc1
  rw [e2] at hc2
  obtain ⟨ad, hA, hab, hc3⟩ := hry.int (k := n - 1) (by omega)
  have hl1 := hlm mid[n] (List.getElem_mem _)
  have hl2 := hlm mid[n - 1] (List.getElem_mem _)
  have ht0 : 0 ≤ mid[n] * 1000000000 + mid[n - 1] := by omega
  have ht1 : mid[n] * 1000000000 + mid[n - 1] ≤ 999999999999999999 := by omega
  have htd : (mid[n] * 1000000000 + mid[n - 1]).tdiv ys[n - 1] = (mid[n] * 1000000000 + mid[n - 1]) / ys[n - 1] := Int.tdiv_eq_ediv_of_nonneg ht0
  have hG0 : 0 ≤ (mid[n] * 1000000000 + mid[n - 1]) / ys[n - 1] := Int.ediv_nonneg ht0 (by omega)
  have hG1 : (mid[n] * 1000000000 + mid[n - 1]) / ys[n - 1] ≤ 999999999999999999 := Int.le_trans (Int.ediv_le_self _ ht0) ht1
  have hmul : IntKind.i64.wrap (mid[n] * 1000000000) = mid[n] * 1000000000 := IntWalk.i64_in _ (by omega)
  have hsum : IntKind.i64.wrap (mid[n] * 1000000000 + mid[n - 1]) = mid[n] * 1000000000 + mid[n - 1] := IntWalk.i64_in _ (by omega)
  generalize mid[n] = x1 at *
  generalize mid[n - 1] = x2 at *
  generalize ys[n - 1] = d at *
  have hn1 : IntKind.i64.wrap ((n : Int) - 1) = (n : Int) - 1 := IntWalk.i64_in _ (by omega)
  have hn2 : (0 : Int) ≤ (n : Int) - 1 := by omega
  have hn3 : ((n : Int) - 1).toNat = n - 1 := by omega
  have hn4 : (n : Int) < ((n + 1 : Nat) : Int) := by omega
  have hn5 : (n : Int) - 1 < ((n + 1 : Nat) : Int) := by omega
  have hn6 : (n : Int) - 1 < (n : Int) := by omega
  have hdz : (d == 0) = false := by simp; omega
  obtain ⟨t, hT⟩ : ∃ t, t = (if 999999999 < (x1 * 1000000000 + x2) / d then 999999999 else (x1 * 1000000000 + x2) / d) := ⟨_, rfl⟩
  have htq : val mid / val ys ≤ t ∧ 0 ≤ t ∧ t ≤ 999999999 := by rw [hT]; split <;> omega
  have HT := hide hT
  have HLM := hide hlm
  have HCY := hide hcy
  have HRY := hide hry
  have HBK := hide hblk
  have HSEP := hide hsep
  -- one more or less of the divisor
  have HADD := hide (fun (w1 : World) (out : List Int) (f : Int) (hb : Blk w1 g 3 (pre ++ out ++ post)) (hl : out.length = n + 1) (hlo : Limbs (out.take n)) (hla : ∀ d, out.getLast? = some d → -1000000000000000000 ≤ d ∧ d ≤ 1000000000000000000) (hf : -1000000000 ≤ f ∧ f ≤ 1000000000) (hr : Rd w1 B (some ad) (iv ys)) (hB1 : B ≤ w1.heap.size) =>
    impl_addTimes w1 g pre.length (n + 1) cw B n c (some ad) pre out post ys f hb rfl hl hy (by omega) (by omega) (by simpa using hlo) hla hcy.1 hf hr hB1 (fun _ => hA ▸ hsep))
  clear hT hguess hlm hcy hqm hl1 hl2 ht0 ht1 hry hblk hsep
  subst hA
  go_enter Try.func95, Try.ntmps95
  go_wp2_with fail
  go_quiet (fail)
  rw [← HT.out]
  obtain ⟨ht0, ht1, ht2⟩ := htq
  clear hG0 hG1 htd hmul hsum hn1 hn2 hn3 hn4 hn5 hn6 hdz hc1 hc2 hc3
  have hbd := below_drewN (Below.refl w.heap.size w) nq
  have hgw := HBK.out.lt
  have HA1 := hide (HADD.out (w.drewN nq) mid (-t) (HBK.out.below hbd hgw) hm (HLM.out.take n) HLM.out.last ⟨by omega, by omega⟩ (HRY.out.below (hbd.mono hB)) hB)
  have HAS0 := hide (Below.asides hbd g (g + 1))
  have hq1' := hq1
  have HV1 : Hid (∀ out : List Int, out.length = n + 1 → Limbs (out.take (n + 1 - 1)) → val out = val mid + -t * val ys → WinS mid ys out n t) := fun out hl hlo hv =>
    ⟨hl, by simpa using hlo, by rw [hv, Int.neg_mul]; omega, ht0, ht1, ht2⟩
  generalize w.drewN nq = w1 at *
  go_wp2_with fail
  refine HA1.out.mono ?_
  rintro e w2 ⟨v, out, rfl, hblk2, hl2, hlo2, hv2, ha2⟩
  have HW2 := hide (HV1.out out hl2 hlo2 hv2)
  have hbk2 := hblk2
  have has2 := HAS0.out.trans ha2
  clear hblk2 hlo2 hv2 ha2 hl2 HA1 HV1
  go_wp2_with fail
  go_loopw [6] (fun tt wr => ∃ (t : Int) (out : List Int), tt = .int .i64 t ∧ Blk wr g 3 (pre ++ out ++ post) ∧ Hid (WinS mid ys out n t) ∧ Aside g (g + 1) w wr) (fun tt _ => (intOf tt).toNat)
  case atStart => exact ⟨t, out, rfl, hbk2, HW2, has2⟩
  case round =>
    clear hbk2 HW2 has2 ht0 ht1 ht2 HT
    obtain ⟨t, out, rfl, hbk, HW, has⟩ := hrel
    have hol := HW.out.len
    have hv := HW.out.v
    have hge := HW.out.ge
    have hb0 := HW.out.b0
    have hb1 := HW.out.b1
    obtain ⟨sg, slo, shi⟩ := win_sign hol HW.out.low
    have hDn : val ys < 1000000000 ^ n := by have := val_lt HCY.out.1; rwa [hy] at this
    have htD0 : 0 ≤ t * val ys := Int.mul_nonneg hb0 (Int.le_of_lt hD)
    have htD1 : t * val ys ≤ 999999999 * val ys := Int.mul_le_mul_of_nonneg_right hb1 (Int.le_of_lt hD)
    have hc1 := hbk.cell (j := pre.length + n) (by simp only [List.length_append]; omega)
    have e1 : (pre ++ out ++ post)[pre.length + n]'(by simp only [List.length_append]; omega) = out[n] := by
      rw [List.getElem_append_left (by simp only [List.length_append]; omega), List.getElem_append_right (by omega)]
      congr 1; omega
    rw [e1] at hc1
    by_cases hneg : out[n] < 0
    · have hvn := sg.1 hneg
      have htq : val mid / val ys < t := by
        rcases Int.lt_or_le (val mid / val ys) t with h | h
        · exact h
        · have := (Int.le_ediv_iff_mul_le hD).1 h
          omega
      have hlow : -1000000000 ≤ out[n] := slo 1000000000 (by omega)
      have hws := has.size
      have hgl := hbk.lt
      have HA1 := hide (HADD.out wr out 1 hbk hol HW.out.low (fun d hd => by
        rw [List.getLast?_eq_getElem?, hol, Nat.add_sub_cancel, List.getElem?_eq_getElem (by omega)] at hd
        injection hd with hd
        omega) (by omega) (HRY.out.aside has hB HSEP.out) (by omega))
      have HN : Hid (∀ out' : List Int, out'.length = n + 1 → Limbs (out'.take (n + 1 - 1)) → val out' = val out + 1 * val ys → WinS mid ys out' n (t - 1)) := fun out' hl hlo hv' =>
        ⟨hl, by simpa using hlo, by rw [hv', hv, Int.sub_mul]; omega, by omega, by omega, by omega⟩
      have HAS := hide has
      generalize out[n] = z at *
      clear e1 sg slo shi hv hvn hbk has htD0 htD1 hDn HW
      go_wp2_with fail
      refine HA1.out.mono ?_
      rintro e w3 ⟨v, out3, rfl, hblk3, hl3, hlo3, hv3, ha3⟩
      have HW3 := hide (HN.out out3 hl3 hlo3 hv3)
      have hbk3 := hblk3
      have has3 := HAS.out.trans ha3
      clear hblk3 hlo3 hv3 ha3 hl3 HA1 HN
      go_wp2_with fail
      go_roundw
      case rel => exact ⟨t - 1, out3, rfl, hbk3, HW3, has3⟩
      case measure => simp [intOf]; omega
    · have hvn : 0 ≤ val out := by
        rcases Int.lt_or_le (val out) 0 with h | h
        · exact absurd (sg.2 h) hneg
        · exact h
      have htq : t = val mid / val ys := by
        have := (Int.le_ediv_iff_mul_le (a := t) (b := val mid) hD).2 (by omega)
        omega
      have hmod : val out = val mid % val ys := by
        have := Int.mul_ediv_add_emod (val mid) (val ys)
        rw [hv, htq, Int.mul_comm]; omega
      have hlt2 : val out < 1000000000 ^ (n + 1) := by
        have := Int.emod_lt_of_pos (val mid) hD
        have e2 : (1000000000 : Int) ^ (n + 1) = 1000000000 ^ n * 1000000000 := Int.pow_succ ..
        omega
      have HO := hide (limbs_of_val hol (by omega) (by simpa using HW.out.low) hvn hlt2)
      have HM := hide hmod
      have HTQ := hide htq
      have HOL := hide hol
      have HAS := hide has
      have HBK2 := hide hbk
      generalize hz : out[n] = z at *
      clear e1 sg slo shi hv hvn hbk has htD0 htD1 hDn HW hmod hlt2 hz htq hol
      go_wp2_with fail
      go_ret
      exact ⟨ret_int HTQ.out, out, (by have := HBK2.out; rwa [List.append_assoc] at this), HOL.out, HO.out, HM.out, HAS.out⟩
end Go.Proofs.Ytcainjgcfbgddaa
