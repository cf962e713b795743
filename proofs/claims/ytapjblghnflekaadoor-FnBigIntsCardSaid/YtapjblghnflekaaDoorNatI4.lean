/-
  The program's natural numbers: contracts (4): NatToInt, NatAdd, NatSub, NatMul.
-/
import Derived.Test.YtapjblghnflekaaDoorNatI3
namespace Go.Proofs.YtapjblghnflekaaDoor
open Go.RowKit
set_option linter.unusedVariables false

/-! ### rows with zeros behind -/
theorem val_zeros (k : Nat) : val (List.replicate k 0) = 0 := by
  induction k with
  | zero => rfl
  | succ k ih => rw [List.replicate_succ, val, ih]; rfl
theorem zeros_ok (k : Nat) : Limbs (List.replicate k 0) := fun d hd => by
  rw [List.mem_replicate] at hd; omega
theorem val_pad (l : List Int) (k : Nat) : val (l ++ List.replicate k 0) = val l := by rw [val_append, val_zeros]; simp
theorem Limbs.last {l : List Int} (h : Limbs l) : ∀ d, l.getLast? = some d → -1000000000000000000 ≤ d ∧ d ≤ 1000000000000000000 := fun d hd => by
  have := h d (List.mem_of_getLast? hd); omega
theorem limbs_of_val {l : List Int} {n : Nat} (hl : l.length = n) (hn : 0 < n) (h : Limbs (l.take (n - 1))) (h0 : 0 ≤ val l) (h1 : val l < 1000000000 ^ n) : Limbs l := by
  have e : l = l.take (n - 1) ++ [l[n - 1]] := by
    rw [← List.take_succ_eq_append_getElem, List.take_of_length_le (by omega)]
  have hv : val l = val (l.take (n - 1)) + 1000000000 ^ (n - 1) * l[n - 1] := by
    conv => lhs; rw [e]
    rw [val_snoc, List.length_take, Nat.min_eq_left (by omega)]
  have a0 := val_nonneg h
  have a1 := val_lt h
  rw [List.length_take, Nat.min_eq_left (by omega)] at a1
  have hp := pow_pos' (n - 1)
  have e2 : (1000000000 : Int) ^ n = 1000000000 ^ (n - 1) * 1000000000 := by rw [← Int.pow_succ]; congr 1; omega
  rw [e]
  refine h.append (Limbs.mk ⟨?_, ?_⟩ Limbs.nil)
  · rcases Int.lt_or_le l[n - 1] 0 with hd | hd
    · have := Int.mul_le_mul_of_nonneg_left (show l[n - 1] ≤ -1 by omega) (Int.le_of_lt hp)
      omega
    · exact hd
  · rcases Int.lt_or_le 999999999 l[n - 1] with hd | hd
    · have := Int.mul_le_mul_of_nonneg_left (show 1000000000 ≤ l[n - 1] by omega) (Int.le_of_lt hp)
      omega
    · exact hd
theorem pow_le' {a b : Nat} (h : a ≤ b) : (1000000000 : Int) ^ a ≤ 1000000000 ^ b := by
  rw [pow_cast, pow_cast]; exact Int.ofNat_le.2 (Nat.pow_le_pow_right (by omega) h)
set_option maxHeartbeats 800000 in
theorem impl_addWhole (w : World) (g n cw : Nat) (B m c : Nat) (A : Option Addr) (mid ys : List Int) (f : Int)
    (hblk : Blk w g 3 mid) (hn : mid.length = n) (hm : ys.length = m) (hmn : m < n) (hbig : n ≤ 1000000)
    (hlm : Limbs (mid.take (n - 1))) (hlast : ∀ d, mid.getLast? = some d → -1000000000000000000 ≤ d ∧ d ≤ 1000000000000000000)
    (hly : Limbs ys) (hf : -1000000000 ≤ f ∧ f ≤ 1000000000) (hy : Rd w B A (iv ys)) (hB : B ≤ w.heap.size) (hsep : ys ≠ [] → ∀ ad, A = some ad → ad.block < g ∨ g + 1 ≤ ad.block) :
    Calls Tryd.prog 41 #[.slice (some ⟨g, 0, none⟩) n cw, .slice A m c, .int .i64 f] w fun e w' => ∃ v out, e = .returned v ∧ Blk w' g 3 out ∧ out.length = n ∧ Limbs (out.take (n - 1)) ∧ val out = val mid + f * val ys ∧ Aside g (g + 1) w w' := by
  refine (impl_addTimes w g 0 n cw B m c A [] mid [] ys f (by simpa using hblk) rfl hn hm hmn (by omega) hlm hlast hly hf hy hB hsep).mono ?_
  rintro e w' ⟨v, out, rfl, h1, h2⟩
  exact ⟨v, out, rfl, by simpa using h1, h2⟩
theorem Rd.sep {w : World} {B g : Nat} {A : Option Addr} {xs : List Int} (h : Rd w B A (iv xs)) (hg : B ≤ g) (h0 : xs ≠ []) : ∀ ad, A = some ad → ad.block < g ∨ g + 1 ≤ ad.block := fun ad e => by
  rcases h with h | ⟨ad', e', hb, _⟩
  · exact absurd (List.map_eq_nil_iff.1 h) h0
  · rw [e] at e'; injection e' with e'; subst e'; omega
/-! ### NatAdd -/
theorem capT_val {xs : List Int} {n : Nat} (h : Limbs xs) (hv : val xs = n) : capT xs = capL n := capT_capL h hv
set_option maxHeartbeats 1600000 in
theorem impl_NatAdd (w : World) (B : Nat) (hB : B ≤ w.heap.size) (A0 : Option Addr) (n0 c0 : Nat) (xs0 : List Int) (R0 : RdI w B A0 n0 xs0) (A1 : Option Addr) (n1 c1 : Nat) (xs1 : List Int) (R1 : RdI w B A1 n1 xs1) :
    Calls Tryd.prog 37 #[.slice A0 n0 c0, .slice A1 n1 c1] w fun e w' => ∃ v, e = .returned v ∧ Own w' w.heap.size w'.heap.size 3 v (addL xs0 xs1).length (iv (addL xs0 xs1)) ∧ Below w.heap.size w w' := by
  have H0 := hide (impl_NatOk w B hB A0 n0 c0 xs0 R0)
  have H1 := hide (impl_NatOk w B hB A1 n1 c1 xs1 R1)
  by_cases h0 : natB xs0 = true
  · by_cases h1 : natB xs1 = true
    · obtain ⟨k0, l0⟩ := (natB_iff xs0).1 h0
      obtain ⟨k1, l1⟩ := (natB_iff xs1).1 h1
      have e0 := R0.1
      have e1 := R1.1
      obtain ⟨M, hM⟩ : ∃ M : Nat, M = max n0 n1 + 1 := ⟨_, rfl⟩
      have HW := hide (impl_widened w B hB A0 n0 c0 M xs0 e0 R0.2.1 (by omega) (by omega))
      have HA := hide (fun w1 g (hg : w.heap.size ≤ g) (hb1 : Below w.heap.size w w1) (hblk : Blk w1 g 3 (xs0 ++ List.replicate (M - n0) 0)) =>
        impl_addWhole w1 g M M B n1 c1 A1 (xs0 ++ List.replicate (M - n0) 0) xs1 1 hblk (by simp; omega) e1 (by omega) (by omega)
          ((k0.1.append (zeros_ok _)).take _) (k0.1.append (zeros_ok _)).last k1.1 (by omega) (R1.2.1.below (hb1.mono hB)) (by have := hb1.size; omega) (R1.2.1.sep (by omega)))
      have HF : Hid (∀ out : List Int, out.length = M → Limbs (out.take (M - 1)) → val out = val (xs0 ++ List.replicate (M - n0) 0) + 1 * val xs1 → capT out = addL xs0 xs1) := fun out hl ht hv => by
        rw [val_pad] at hv
        have a0 := val_nonneg k0.1
        have a1 := val_nonneg k1.1
        have b0 := val_lt k0.1
        have b1 := val_lt k1.1
        have p0 := pow_le' (show xs0.length ≤ M - 1 by omega)
        have p1 := pow_le' (show xs1.length ≤ M - 1 by omega)
        have e2 : (1000000000 : Int) ^ M = 1000000000 ^ (M - 1) * 1000000000 := by rw [← Int.pow_succ]; congr 1; omega
        exact addL_ok h0 h1 (limbs_of_val hl (by omega) ht (by omega) (by omega)) (by omega)
      have hM6 : M ≤ 61 := by omega
      clear R0 R1 k0 k1
      by_cases hle : n1 ≤ n0
      · have hle' : (n1 : Int) ≤ (n0 : Int) := by omega
        have hMe : (n0 : Int) + 1 = (M : Int) := by omega
        have HMM := hide hM
        clear hM
        go_enter Tryd.func37, Tryd.ntmps37
        go_wp2_with fail
        refine H0.out.mono ?_
        rintro e w' ⟨rfl, rfl⟩
        go_wp2_with fail
        refine H1.out.mono ?_
        rintro e w' ⟨rfl, rfl⟩
        go_wp2_with fail
        refine HW.out.mono ?_
        rintro e w1 ⟨g, rfl, hg, hblk, hb1⟩
        have HA1 := hide (HA.out w1 g hg hb1 hblk)
        have HB1 := hide hb1
        have hs1 := hb1.size
        clear hblk hb1
        go_wp2_with fail
        refine HA1.out.mono ?_
        rintro e w2 ⟨v, out, rfl, hblk, hl, ht, hv, ha⟩
        have HE := hide (HF.out out hl ht hv)
        have HP := hide (impl_fitting w2 g (g + 1) (some ⟨g, 0, none⟩) M M out (by have := hblk.own M M (by omega); rwa [List.take_of_length_le (by omega)] at this) (Nat.le_refl _) (by omega))
        have hgl := hblk.lt
        have hb2 := HB1.out.trans (ha.below (by omega) (by omega))
        clear hv ht hl hblk ha
        go_wp2_with fail
        refine HP.out.mono ?_
        rintro e w' ⟨v2, rfl, o, rfl⟩
        rw [HE.out] at o
        have HO := hide (o.wider (lo' := w.heap.size) (hi' := w2.heap.size) hg (by omega))
        clear o
        go_wp2_with fail
        go_ret
        exact ⟨_, rfl, HO.out, hb2⟩
      · have hle' : (n0 : Int) < (n1 : Int) := by omega
        have hMe : (n1 : Int) + 1 = (M : Int) := by omega
        have HMM := hide hM
        clear hM
        go_enter Tryd.func37, Tryd.ntmps37
        go_wp2_with fail
        refine H0.out.mono ?_
        rintro e w' ⟨rfl, rfl⟩
        go_wp2_with fail
        refine H1.out.mono ?_
        rintro e w' ⟨rfl, rfl⟩
        go_wp2_with fail
        refine HW.out.mono ?_
        rintro e w1 ⟨g, rfl, hg, hblk, hb1⟩
        have HA1 := hide (HA.out w1 g hg hb1 hblk)
        have HB1 := hide hb1
        have hs1 := hb1.size
        clear hblk hb1
        go_wp2_with fail
        refine HA1.out.mono ?_
        rintro e w2 ⟨v, out, rfl, hblk, hl, ht, hv, ha⟩
        have HE := hide (HF.out out hl ht hv)
        have HP := hide (impl_fitting w2 g (g + 1) (some ⟨g, 0, none⟩) M M out (by have := hblk.own M M (by omega); rwa [List.take_of_length_le (by omega)] at this) (Nat.le_refl _) (by omega))
        have hgl := hblk.lt
        have hb2 := HB1.out.trans (ha.below (by omega) (by omega))
        clear hv ht hl hblk ha
        go_wp2_with fail
        refine HP.out.mono ?_
        rintro e w' ⟨v2, rfl, o, rfl⟩
        rw [HE.out] at o
        have HO := hide (o.wider (lo' := w.heap.size) (hi' := w2.heap.size) hg (by omega))
        clear o
        go_wp2_with fail
        go_ret
        exact ⟨_, rfl, HO.out, hb2⟩
    · have h1' : natB xs1 = false := by simpa using h1
      have HE : Hid (addL xs0 xs1 = []) := by show _ = _; rw [addL, h1']; simp
      clear R0 R1 h1
      go_enter Tryd.func37, Tryd.ntmps37
      go_wp2_with fail
      refine H0.out.mono ?_
      rintro e w' ⟨rfl, rfl⟩
      go_wp2_with fail
      refine H1.out.mono ?_
      rintro e w' ⟨rfl, rfl⟩
      go_wp2_with fail
      go_ret
      exact ⟨_, rfl, by rw [HE.out]; exact Own.nil _ _ _ _, Below.refl _ _⟩
  · have h0' : natB xs0 = false := by simpa using h0
    have HE : Hid (addL xs0 xs1 = []) := by show _ = _; rw [addL, h0']; simp
    clear R0 R1 h0
    go_enter Tryd.func37, Tryd.ntmps37
    go_wp2_with fail
    refine H0.out.mono ?_
    rintro e w' ⟨rfl, rfl⟩
    go_wp2_with fail
    go_ret
    exact ⟨_, rfl, by rw [HE.out]; exact Own.nil _ _ _ _, Below.refl _ _⟩
/-! ### NatSub -/
theorem cmpV_negI {a b : Int} : cmpV a b < 0 ↔ a < b := by
  unfold cmpV
  split
  · omega
  · split <;> omega
theorem capL_small {n : Nat} (h : n < 1000000000 ^ 60) : capL n = limbs n := by rw [capL, if_pos (limbs_len.2 h)]
theorem natV_lt60 {l : List Int} (h : natB l = true) : natV l < 1000000000 ^ 60 := by
  obtain ⟨hc, hl⟩ := (natB_iff l).1 h
  have e := limbs_natV h
  exact limbs_len.1 (by rw [e]; exact hl)
theorem subL_okI {a b : List Int} (ha : natB a = true) (hb : natB b = true) (hle : val b ≤ val a) {acc : List Int} (hl : Limbs acc) (hv : val acc = val a - val b) : capT acc = subL a b := by
  have e0 := natV_val ha
  have e1 := natV_val hb
  have h60 := natV_lt60 ha
  rw [subL, ha, hb, capT_capL hl (n := natV a - natV b) (by omega), capL_small (by omega)]; simp
theorem subL_lt {a b : List Int} (ha : natB a = true) (hb : natB b = true) (hlt : val a < val b) : subL a b = [] := by
  have e0 := natV_val ha
  have e1 := natV_val hb
  rw [subL, ha, hb]
  simp [show natV a - natV b = 0 by omega, limbs_zero]
end Go.Proofs.YtapjblghnflekaaDoor
