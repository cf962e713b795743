/-
  The reference's natural numbers: contracts (6): NatToInt, l02Small.
-/
import Derived.Test.YtcainjgcfbgddaaNatR5
namespace Go.Proofs.Ytcainjgcfbgddaa
open Go.RowKit
set_option linter.unusedVariables false

set_option maxHeartbeats 800000 in
theorem spec_NatToInt (w : World) (B : Nat) (hB : B ≤ w.heap.size) (A0 : Option Addr) (n0 c0 : Nat) (xs0 : List Int) (R0 : RdI w B A0 n0 xs0) :
    Calls Try.prog 50 #[.slice A0 n0 c0] w fun e w' => e = .returned (.tuple #[.int .i64 (natInt xs0), .bool (natIntOk xs0)]) ∧ Below w.heap.size w w' := by
  have H0 := hide (spec_NatOk w B hB A0 n0 c0 xs0 R0)
  by_cases h0 : natB xs0 = true
  · obtain ⟨k0, l0⟩ := (natB_iff xs0).1 h0
    have hmx : Rd (w.alloc (.cells #[.int .i64 854775807, .int .i64 223372036, .int .i64 9] 3)) (w.heap.size + 1) (some ⟨w.heap.size, 0, none⟩) (iv maxL) := by
      refine .inr ⟨_, rfl, Nat.lt_succ_self _, fun j u hu => ?_⟩
      have e : (⟨w.heap.size, 0, none⟩ : Addr).add j = ⟨w.heap.size, j, none⟩ := by unfold Addr.add; split <;> simp_all
      rw [e, World.cell?_alloc_mark]
      simpa [iv, maxL] using hu
    have hxa : Rd (w.alloc (.cells #[.int .i64 854775807, .int .i64 223372036, .int .i64 9] 3)) (w.heap.size + 1) A0 (iv xs0) := (R0.2.1.alloc hB _).wider (by omega)
    have HK := hide (spec_Cmp _ _ A0 (some ⟨w.heap.size, 0, none⟩) n0 3 c0 3 xs0 maxL R0.1 rfl hxa hmx (by have := R0.2.2.1; omega) (by omega) k0 maxL_canon)
    rw [maxL_val] at HK
    have hbA := (Below.refl w.heap.size w).alloc (Nat.le_refl _) (.cells #[.int .i64 854775807, .int .i64 223372036, .int .i64 9] 3)
    have hn := R0.1
    have hl := R0.2.2.1
    have hx := R0.2.1
    clear hmx R0
    by_cases hle : val xs0 ≤ 9223372036854775807
    · have hok : natIntOk xs0 = true := by rw [natIntOk, h0]; simpa using hle
      have HE : Hid (natInt xs0 = val xs0 ∧ natIntOk xs0 = true) := ⟨by rw [natInt, hok]; simp, hok⟩
      have hcv : ¬ 0 < cmpV (val xs0) 9223372036854775807 := by
        unfold cmpV
        split
        · omega
        · split <;> omega
      have hcv' : decide (0 < cmpV (val xs0) 9223372036854775807) = false := decide_eq_false hcv
      have hcv0 : cmpV (val xs0) 9223372036854775807 ≤ 0 := by omega
      generalize cmpV (val xs0) 9223372036854775807 = q at *
      have HL := hide hle
      have hlx := k0.1
      clear hcv hle hok k0
      have HX := hide hxa
      clear hxa hx
      go_enter Try.func50, Try.ntmps50
      go_wp2_with fail
      refine H0.out.mono ?_
      rintro e w' ⟨rfl, rfl⟩
      go_wp2_with fail
      refine HK.out.mono ?_
      rintro e w' ⟨rfl, d, rfl⟩
      have hxd : Rd ((w.alloc (.cells #[.int .i64 854775807, .int .i64 223372036, .int .i64 9] 3)).drewN d) (w.heap.size + 1) A0 (iv xs0) := HX.out
      have hbd := below_drewN hbA d
      clear H0 HK HX hbA
      go_wp2_with fail
      generalize (w.alloc (.cells #[.int .i64 854775807, .int .i64 223372036, .int .i64 9] 3)).drewN d = W at *
      go_loop [4, 5] (fun s i => ∃ k : Nat, k ≤ n0 ∧ i = .int .i64 ((k : Int) - 1) ∧ s = .int .i64 (val (xs0.drop k))) (fun _ i => (intOf i + 1).toNat)
      case atStart => exact ⟨n0, Nat.le_refl _, rfl, by rw [List.drop_of_length_le (by omega)]; rfl⟩
      case round =>
        obtain ⟨k, hk, rfl, rfl⟩ := hrel
        by_cases hk0 : k = 0
        · subst hk0
          rw [List.drop_zero]
          clear hxd hlx
          go_wp2_with fail
          go_ret2
          exact ⟨ret_pair HE.out.1.symm HE.out.2.symm, hbd⟩
        · obtain ⟨j, rfl⟩ : ∃ j, k = j + 1 := ⟨k - 1, by omega⟩
          rw [show (((j + 1 : Nat) : Int) - 1) = (j : Int) by omega]
          obtain ⟨ad, hA, hab, hc⟩ := hxd.int (k := j) (by omega)
          obtain ⟨hy0, hy1⟩ := hlx xs0[j] (List.getElem_mem _)
          have hv := val_drop (l := xs0) (j := j) (by omega)
          have hvl := val_drop_le hlx j
          have hv0 := val_nonneg (hlx.drop (j + 1))
          have hle := HL.out
          have HV := hide hv
          generalize val (xs0.drop (j + 1)) = D at *
          have hb1 : D * 1000000000 + xs0[j] ≤ 9223372036854775807 := by omega
          generalize xs0[j] = y at *
          clear hv hvl hle hxd hlx hk0
          subst hA
          go_wp2_with fail
          go_round
          case rel => exact ⟨j, by omega, rfl, by rw [HV.out]; congr 1; omega⟩
          case measure => simp [intOf]
    · have hok : natIntOk xs0 = false := by rw [natIntOk, h0]; simpa using hle
      have HE : Hid (natInt xs0 = 0 ∧ natIntOk xs0 = false) := ⟨by rw [natInt, hok]; simp, hok⟩
      have hcv : cmpV (val xs0) 9223372036854775807 = 1 := cmpV_gt (by omega)
      rw [hcv] at HK
      clear hle hok k0 hcv hxa hx
      go_enter Try.func50, Try.ntmps50
      go_wp2_with fail
      refine H0.out.mono ?_
      rintro e w' ⟨rfl, rfl⟩
      go_wp2_with fail
      refine HK.out.mono ?_
      rintro e w' ⟨rfl, d, rfl⟩
      have hbd := below_drewN hbA d
      clear H0 HK hbA
      go_wp2_with fail
      go_ret2
      exact ⟨ret_pair HE.out.1.symm HE.out.2.symm, hbd⟩
  · have h0' : natB xs0 = false := by simpa using h0
    have hok : natIntOk xs0 = false := by rw [natIntOk, h0']; rfl
    have HE : Hid (natInt xs0 = 0 ∧ natIntOk xs0 = false) := ⟨by rw [natInt, hok]; simp, hok⟩
    clear R0 h0 hok
    go_enter Try.func50, Try.ntmps50
    go_wp2_with fail
    refine H0.out.mono ?_
    rintro e w' ⟨rfl, rfl⟩
    go_wp2_with fail
    go_ret2
    exact ⟨ret_pair HE.out.1.symm HE.out.2.symm, Below.refl _ _⟩
end Go.Proofs.Ytcainjgcfbgddaa
