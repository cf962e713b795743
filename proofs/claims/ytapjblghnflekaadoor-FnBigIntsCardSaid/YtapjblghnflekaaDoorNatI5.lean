/-
  The program's natural numbers: contracts (5): NatMul.
-/
import Derived.Test.YtapjblghnflekaaDoorNatI4
namespace Go.Proofs.YtapjblghnflekaaDoor
open Go.RowKit
set_option linter.unusedVariables false

/-- the product so far -/
structure MulP (xs ys P : List Int) (L i : Nat) : Prop where
  len : P.length = L
  ok : Limbs P
  v : val P = val (xs.take i) * val ys
theorem split3 (P : List Int) (i k : Nat) : P = P.take i ++ (P.drop i).take k ++ P.drop (i + k) := by
  rw [List.append_assoc, ← List.drop_drop, List.take_append_drop, List.take_append_drop]
theorem val_split3 (P : List Int) (i k : Nat) (h : i + k ≤ P.length) : val P = val (P.take i) + 1000000000 ^ i * (val ((P.drop i).take k) + 1000000000 ^ k * val (P.drop (i + k))) := by
  conv => lhs; rw [split3 P i k, List.append_assoc, val_append, val_append]
  rw [List.length_take, List.length_take, List.length_drop, Nat.min_eq_left (by omega), Nat.min_eq_left (by omega)]
/-- the window's value is small: what stands above it is zero -/
theorem MulP.win {xs ys P : List Int} {L i : Nat} (h : MulP xs ys P L i) (hx : Limbs xs) (hy : Limbs ys) (hi : i < xs.length) (hL : L = xs.length + ys.length) : val ((P.drop i).take (ys.length + 1)) < 1000000000 ^ ys.length := by
  have e := val_split3 P i (ys.length + 1) (by rw [h.len]; omega)
  have hv := h.v
  have a0 := val_nonneg (h.ok.take i)
  have a1 := val_nonneg ((h.ok.drop i).take (ys.length + 1))
  have a2 := val_nonneg (h.ok.drop (i + (ys.length + 1)))
  have b0 := val_lt (hx.take i)
  have b1 := val_lt hy
  have c0 := val_nonneg (hx.take i)
  have c1 := val_nonneg hy
  rw [List.length_take, Nat.min_eq_left (by omega)] at b0
  generalize val ((P.drop i).take (ys.length + 1)) = m at *
  generalize val (P.drop (i + (ys.length + 1))) = t at *
  rcases Int.lt_or_le m (1000000000 ^ ys.length) with hlt | hge
  · exact hlt
  · exfalso
    have hp := pow_pos' i
    have hq := pow_pos' (ys.length + 1)
    have d0 : 0 ≤ 1000000000 ^ (ys.length + 1) * t := Int.mul_nonneg (Int.le_of_lt hq) a2
    have d1 : 1000000000 ^ i * 1000000000 ^ ys.length ≤ 1000000000 ^ i * (m + 1000000000 ^ (ys.length + 1) * t) := Int.mul_le_mul_of_nonneg_left (by omega) (Int.le_of_lt hp)
    have d2 : val (xs.take i) * val ys < 1000000000 ^ i * 1000000000 ^ ys.length := Int.lt_of_le_of_lt (Int.mul_le_mul_of_nonneg_left (Int.le_of_lt b1) c0) (Int.mul_lt_mul_of_pos_right b0 (pow_pos' ys.length))
    omega
theorem MulP.next {xs ys P out : List Int} {L i : Nat} (h : MulP xs ys P L i) (hx : Limbs xs) (hy : Limbs ys) (hi : i < xs.length) (hL : L = xs.length + ys.length)
    (ol : out.length = ys.length + 1) (ot : Limbs (out.take (ys.length + 1 - 1))) (ov : val out = val ((P.drop i).take (ys.length + 1)) + xs[i] * val ys) : MulP xs ys (P.take i ++ out ++ P.drop (i + (ys.length + 1))) L (i + 1) := by
  have hw := h.win hx hy hi hL
  have a1 := val_nonneg ((h.ok.drop i).take (ys.length + 1))
  have c1 := val_nonneg hy
  have b1 := val_lt hy
  have hd := hx xs[i] (List.getElem_mem _)
  have m0 : 0 ≤ xs[i] * val ys := Int.mul_nonneg hd.1 c1
  have m1 : xs[i] * val ys ≤ 999999999 * val ys := Int.mul_le_mul_of_nonneg_right hd.2 c1
  have e2 : (1000000000 : Int) ^ (ys.length + 1) = 1000000000 ^ ys.length * 1000000000 := Int.pow_succ ..
  have ho : Limbs out := limbs_of_val ol (by omega) ot (by omega) (by omega)
  have hl := h.len
  refine ⟨?_, ((h.ok.take i).append ho).append (h.ok.drop _), ?_⟩
  · simp only [List.length_append, List.length_take, List.length_drop]; omega
  · have e := val_split3 P i (ys.length + 1) (by rw [hl]; omega)
    rw [List.append_assoc, val_append, val_append, ol, List.length_take, Nat.min_eq_left (by omega), ov]
    have e3 := val_take_step xs i
    rw [getD_in hi] at e3
    rw [e3, Int.add_mul, ← h.v, e, Int.mul_add, Int.mul_add, Int.mul_add, Int.mul_assoc]
    omega
theorem mulL_okI {a b P : List Int} {L : Nat} (ha : natB a = true) (hb : natB b = true) (h : MulP a b P L a.length) : capT P = mulL a b := by
  have hv := h.v
  rw [List.take_of_length_le (Nat.le_refl _)] at hv
  rw [mulL, ha, hb]
  exact capT_capL h.ok (by rw [hv, ← natV_val ha, ← natV_val hb]; simp)
set_option maxHeartbeats 1600000 in
theorem impl_NatMul (w : World) (B : Nat) (hB : B ≤ w.heap.size) (A0 : Option Addr) (n0 c0 : Nat) (xs0 : List Int) (R0 : RdI w B A0 n0 xs0) (A1 : Option Addr) (n1 c1 : Nat) (xs1 : List Int) (R1 : RdI w B A1 n1 xs1) :
    Calls Tryd.prog 22 #[.slice A0 n0 c0, .slice A1 n1 c1] w fun e w' => ∃ v, e = .returned v ∧ Own w' w.heap.size w'.heap.size 3 v (mulL xs0 xs1).length (iv (mulL xs0 xs1)) ∧ Below w.heap.size w w' := by
  have H0 := hide (impl_NatOk w B hB A0 n0 c0 xs0 R0)
  have H1 := hide (impl_NatOk w B hB A1 n1 c1 xs1 R1)
  by_cases h0 : natB xs0 = true
  · by_cases h1 : natB xs1 = true
    · obtain ⟨k0, l0⟩ := (natB_iff xs0).1 h0
      obtain ⟨k1, l1⟩ := (natB_iff xs1).1 h1
      have e0 := R0.1
      have e1 := R1.1
      have hx0 := R0.2.1
      have hx1 := R1.2.1
      obtain ⟨L, hL⟩ : ∃ L : Nat, L = n0 + n1 := ⟨_, rfl⟩
      have hLe : (n0 : Int) + (n1 : Int) = (L : Int) := by omega
      have hl0 : n0 ≤ 60 := by omega
      have hl1 : n1 ≤ 60 := by omega
      obtain ⟨i0, hi0, hz0, hz1, hz2⟩ := info_parts Tryd.infoInt
      obtain ⟨w1, hmk, hown0, hg0⟩ := run_make_full (P := Tryd.prog) w w.heap.size 23 3 i0 _ 1 Tryd.underlying23 hi0 hz0 hz1 .i64 .i64 L (by rw [hz2]; omega) (by unfold maxLen; omega) (Nat.le_refl _)
      have hb0 : Below w.heap.size w w1 := (Below.refl _ _).grown hg0 (Nat.le_refl _) (fun k h => by cases h)
      rw [made_zeros] at hown0
      have hbk : Blk w1 w.heap.size 3 (List.replicate L 0) := by unfold Blk; rw [List.length_replicate]; exact hown0
      have hm0 : MulP xs0 xs1 (List.replicate L 0) L 0 := ⟨by simp, zeros_ok _, by rw [val_zeros]; simp [val]⟩
      have HK0 := hide k0.1
      have HK1 := hide k1.1
      clear R0 R1 k0 k1 hi0 hz0 hz1 hz2 hg0 hown0
      have HLL := hide hL
      clear hL
      go_enter Tryd.func22, Tryd.ntmps22
      go_wp2_with fail
      refine H0.out.mono ?_
      rintro e w' ⟨rfl, rfl⟩
      go_wp2_with fail
      refine H1.out.mono ?_
      rintro e w' ⟨rfl, rfl⟩
      go_wp2_with fail
      go_loopw [25] (fun i wr => ∃ (k : Nat) (P : List Int), k ≤ n0 ∧ i = .int .i64 k ∧ Blk wr w.heap.size 3 P ∧ Hid (MulP xs0 xs1 P L k) ∧ Below w.heap.size w wr) (fun i _ => n0 - (intOf i).toNat)
      case atStart => exact ⟨0, _, Nat.zero_le _, rfl, hbk, hm0, hb0⟩
      case round =>
        clear hbk hb0 hmk hm0
        obtain ⟨k, P, hk, rfl, hbk, HM, hbl⟩ := hrel
        by_cases hlt : k < n0
        · obtain ⟨ad, hA, hb1, hc1⟩ := (hx0.below (hbl.mono hB)).int (k := k) (by omega)
          have hd := HK0.out xs0[k] (List.getElem_mem _)
          have hPl := HM.out.len
          have hLL := HLL.out
          have HN := hide (fun out => HM.out.next (out := out) HK0.out HK1.out (i := k) (by omega) (by omega))
          have HA := hide (impl_addTimes wr w.heap.size k (n1 + 1) (n1 + 1) B n1 c1 A1 (P.take k) ((P.drop k).take (n1 + 1)) (P.drop (k + (n1 + 1))) xs1 xs0[k]
            (by rw [← split3]; exact hbk) (by rw [List.length_take]; omega) (by rw [List.length_take, List.length_drop]; omega) e1 (by omega) (by omega)
            (((HM.out.ok.drop k).take _).take _) (((HM.out.ok.drop k).take _)).last HK1.out (by omega) (hx1.below (hbl.mono hB)) (by have := hbl.size; omega) (hx1.sep hB))
          have HB := hide hbl
          generalize xs0[k] = d at *
          clear hbk hbl hx1 hPl hLL hx0
          subst hA
          go_wp2_with fail
          rw [show k + n1 + 1 - k = n1 + 1 by omega]
          refine HA.out.mono ?_
          rintro e w2 ⟨v, out, rfl, hblk, hl, ht, hv, ha⟩
          have hN2 := hide (HN.out out (by omega) (by rwa [e1]) (by rw [hv, e1]))
          have hgs := hblk.lt
          have hb2 := HB.out.trans (ha.below (Nat.le_refl _) (by have := HB.out.size; omega))
          have HBK := hide hblk
          clear hv ht hl hblk ha HN HA
          go_wp2_with fail
          go_roundw
          case rel =>
            refine ⟨k + 1, _, by omega, by go_num, HBK.out, ?_, hb2⟩
            have := hN2.out
            rw [e1] at this
            exact this
          case measure => simp [intOf]; omega
        · obtain rfl : k = n0 := by omega
          have hPl := HM.out.len
          have HE : Hid (capT P = mulL xs0 xs1) := mulL_okI h0 h1 (by rw [e0]; exact HM.out)
          have HP := hide (impl_fitting wr w.heap.size (w.heap.size + 1) (some ⟨w.heap.size, 0, none⟩) L L P (by have := hbk.own L L (by omega); rwa [List.take_of_length_le (by omega)] at this) (Nat.le_refl _) (by have := HLL.out; omega))
          have hgl := hbk.lt
          clear hbk hx1 hx0 HM hPl
          go_wp2_with fail
          refine HP.out.mono ?_
          rintro e w' ⟨v2, rfl, o, rfl⟩
          rw [HE.out] at o
          have HO := hide (o.wider (lo' := w.heap.size) (hi' := wr.heap.size) (Nat.le_refl _) (by omega))
          clear o
          go_wp2_with fail
          go_ret
          exact ⟨_, rfl, HO.out, hbl⟩
    · have h1' : natB xs1 = false := by simpa using h1
      have HE : Hid (mulL xs0 xs1 = []) := by show _ = _; rw [mulL, h1']; simp
      clear R0 R1 h1
      go_enter Tryd.func22, Tryd.ntmps22
      go_wp2_with fail
      refine H0.out.mono ?_
      rintro e w' ⟨rfl, rfl⟩
      go_wp2_with fail
      refine H1.out.mono ?_
      rintro e w' ⟨rfl, rfl⟩
      go_wp2_with fail
      go_ret
      exact ⟨_, rfl, by rw [HE.out]; exact Own.nil _ _ _ _, Below.refl _ _⟩
  · have h0' : natB xs0 = false := by simpa using h0
    have HE : Hid (mulL xs0 xs1 = []) := by show _ = _; rw [mulL, h0']; simp
    clear R0 R1 h0
    go_enter Tryd.func22, Tryd.ntmps22
    go_wp2_with fail
    refine H0.out.mono ?_
    rintro e w' ⟨rfl, rfl⟩
    go_wp2_with fail
    go_ret
    exact ⟨_, rfl, by rw [HE.out]; exact Own.nil _ _ _ _, Below.refl _ _⟩
end Go.Proofs.YtapjblghnflekaaDoor
