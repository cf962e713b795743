/-
  The program's natural numbers: contracts (11): NatGcd.
-/
import Derived.Test.YtalcknddegfkaaaDoorNatI10
namespace Go.Proofs.YtalcknddegfkaaaDoor
open Go.RowKit
set_option linter.unusedVariables false

set_option maxRecDepth 100000 in
set_option maxHeartbeats 6400000 in
theorem impl_NatGcd (w : World) (B : Nat) (hB : B ≤ w.heap.size) (A0 : Option Addr) (n0 c0 : Nat) (xs0 : List Int) (R0 : RdI w B A0 n0 xs0) (A1 : Option Addr) (n1 c1 : Nat) (xs1 : List Int) (R1 : RdI w B A1 n1 xs1) :
    Calls Tryd.prog 12 #[.slice A0 n0 c0, .slice A1 n1 c1] w fun e w' => ∃ v, e = .returned v ∧ Own w' w.heap.size w'.heap.size 3 v (gcdL xs0 xs1).length (iv (gcdL xs0 xs1)) ∧ Below w.heap.size w w' := by
  have H0 := hide (impl_NatOk w B hB A0 n0 c0 xs0 R0)
  have H1 := hide (impl_NatOk w B hB A1 n1 c1 xs1 R1)
  by_cases h0 : natB xs0 = true
  · by_cases h1 : natB xs1 = true
    · have hG := gcdL_ok h0 h1
      have hP6 := natV_lt60 h0
      have hQ6 := natV_lt60 h1
      have e0 := limbs_natV h0
      have e1 := limbs_natV h1
      have HC := impl_Cmp w B A0 A1 n0 n1 c0 c1 xs0 xs1 R0.1 R1.1 R0.2.1 R1.2.1 (by have := R0.2.2.1; omega) (by have := R1.2.2.1; omega) ((natB_iff xs0).1 h0).1 ((natB_iff xs1).1 h1).1
      rw [← natV_val h0, ← natV_val h1] at HC
      have HP0 : Hid (∀ w', Below w.heap.size w w' → RdN w' (.slice A0 n0 c0) (natV xs0)) := fun w' hb => ⟨A0, c0, by rw [e0, R0.1], by rw [e0]; exact (R0.2.1.below (hb.mono hB)).wider (Nat.le_trans hB hb.size)⟩
      have HQ0 : Hid (∀ w', Below w.heap.size w w' → RdN w' (.slice A1 n1 c1) (natV xs1)) := fun w' hb => ⟨A1, c1, by rw [e1, R1.1], by rw [e1]; exact (R1.2.1.below (hb.mono hB)).wider (Nat.le_trans hB hb.size)⟩
      rw [← hG]
      generalize natV xs0 = P0 at *
      generalize natV xs1 = Q0 at *
      obtain ⟨G, hGe⟩ : ∃ G, G = Nat.gcd P0 Q0 := ⟨_, rfl⟩
      rw [← hGe]
      have HGE := hide hGe
      clear hG e0 e1 R0 R1 hGe
      by_cases hlt : (P0 : Int) < Q0
      · rw [cmpV_lt hlt] at HC
        have HCC := hide HC
        clear HC
        go_enter Tryd.func12, Tryd.ntmps12
        go_wp2_with fail
        refine H0.out.mono ?_
        rintro e w' ⟨rfl, rfl⟩
        go_wp2_with fail
        refine H1.out.mono ?_
        rintro e w' ⟨rfl, rfl⟩
        go_wp2_with fail
        refine HCC.out.mono ?_
        rintro e w' ⟨rfl, d, rfl⟩
        have hbd := below_drewN (Below.refl w.heap.size w) d
        clear HCC
        go_wp2_with fail
        go_loopw [0, 1] (fun a b wr => ∃ P Q : Nat, P < 1000000000 ^ 60 ∧ Q ≤ P ∧ RdN wr a P ∧ RdN wr b Q ∧ Hid (Nat.gcd P Q = G) ∧ Below w.heap.size w wr) (fun _ b wr => numR b wr)
        case atStart => exact ⟨Q0, P0, hQ6, by omega, HQ0.out _ hbd, HP0.out _ hbd, by show _ = _; rw [HGE.out, Nat.gcd_comm], hbd⟩
        case round =>
          clear HP0 HQ0 hP6 hQ6 hbd
          obtain ⟨P, Q, hP6, hQP, ⟨A1, c1, rfl, r1⟩, ⟨A2, c2, rfl, r2⟩, HG, hbl⟩ := hrel
          have hpl := limbs_len.2 hP6
          have hql := limbs_len.2 (Nat.lt_of_le_of_lt hQP hP6)
          have hbs := hbl.size
          by_cases h0 : Q = 0
          · subst h0
            have HE : Hid (P = G) := by have := HG.out; rwa [Nat.gcd_zero_right] at this
            have hl0 : (limbs 0).length = 0 := by rw [limbs_zero]; rfl
            have HW := hide (impl_widened wr wr.heap.size (Nat.le_refl _) A1 (limbs P).length c1 (limbs P).length (limbs P) rfl r1 (Nat.le_refl _) (by omega))
            clear r1 r2 HG
            go_wp2_with fail
            refine HW.out.mono ?_
            rintro e w2 ⟨g, rfl, hg, hblk, hb2⟩
            have hgl := hblk.lt
            have hO := hblk.own (limbs P).length (limbs P).length (by simp)
            rw [Nat.sub_self, List.replicate_zero, List.append_nil, List.take_of_length_le (Nat.le_refl _)] at hO
            have HO := hide (hO.wider (lo' := w.heap.size) (hi' := w2.heap.size) (by omega) hgl)
            have HB2 := hide (hbl.trans (hb2.mono hbs))
            clear hblk hO hb2 HW
            go_wp2_with fail
            go_ret
            exact ⟨_, rfl, by rw [← HE.out]; exact HO.out, HB2.out⟩
          · have hq0 : 0 < (limbs Q).length := List.length_pos_iff.2 (fun e => h0 (limbs_nil.1 e))
            by_cases h2 : (limbs P).length ≤ 2
            · have hp18 : P ≤ 999999999999999999 := by have := limbs_len.1 h2; omega
              have hq2 : (limbs Q).length ≤ 2 := limbs_len.2 (Nat.lt_of_le_of_lt hQP (limbs_len.1 h2))
              have H1 := impl_leading wr wr.heap.size A1 (limbs P).length c1 2 (limbs P) rfl r1 (limbs_ok P) (Nat.le_refl _) h2 (by omega)
              have H2 := impl_leading wr wr.heap.size A2 (limbs Q).length c2 2 (limbs Q) rfl r2 (limbs_ok Q) (Nat.le_refl _) hq2 (by omega)
              rw [Nat.sub_self, List.drop_zero, val_limbs] at H1 H2
              have H3 := impl_gcdInts wr P Q (by omega) (by omega)
              rw [HG.out] at H3
              have hg18 : G ≤ 999999999999999999 := by
                rw [← HG.out]; exact Nat.le_trans (Nat.gcd_le_right _ (by omega)) (by omega)
              have HH1 := hide H1
              have HH2 := hide H2
              have HH3 := hide H3
              have HO := hide (fun d : Nat => impl_NatOf (wr.drewN d) (wr.drewN d).heap.size (Nat.le_refl _) (G : Int) (WalkArith.wf_i64 ⟨by omega, by omega⟩))
              clear r1 r2 HG H1 H2 H3
              go_wp2_with fail
              refine HH1.out.mono ?_
              rintro e w' ⟨rfl, rfl⟩
              go_wp2_with fail
              refine HH2.out.mono ?_
              rintro e w' ⟨rfl, rfl⟩
              go_wp2_with fail
              refine HH3.out.mono ?_
              rintro e w' ⟨rfl, d, rfl⟩
              go_wp2_with fail
              refine (HO.out d).mono ?_
              rintro e w5 ⟨v, rfl, o5, hb5⟩
              rw [Int.toNat_natCast] at o5
              have hbd := below_drewN hbl d
              have HO5 := hide (o5.wider (lo' := w.heap.size) (hi' := w5.heap.size) hbd.size (Nat.le_refl _))
              have HB5 := hide (hbd.trans (hb5.mono hbd.size))
              clear o5 hb5 hbd HO HH1 HH2 HH3
              go_wp2_with fail
              go_ret
              exact ⟨_, rfl, HO5.out, HB5.out⟩
            · have HA := hide (impl_after wr A1 A2 c1 c2 P Q r1 r2 hP6 hQP (by omega) (by omega))
              have HR2 : Hid (RdN wr (.slice A2 (limbs Q).length c2) Q) := ⟨A2, c2, rfl, r2⟩
              have h2' : 2 < (limbs P).length := by omega
              clear r1 r2 h2
              go_wp2_with fail
              refine HA.out.mono ?_
              rintro e w3 ⟨v1, v2, P2, Q2, rfl, s1, s2, hgc, hlt, hle, hb3⟩
              have HS1 := hide s1
              have HS2 := hide s2
              have HG2 : Hid (Nat.gcd P2 Q2 = G) := hgc.trans HG.out
              have HB3 := hide (hbl.trans (hb3.mono hbs))
              have HMS : Hid (numR v2 w3 < numR (.slice A2 (limbs Q).length c2) wr) := by
                show _ < _
                rw [numR_eq s2, numR_eq HR2.out]; omega
              have hP26 : P2 < 1000000000 ^ 60 := Nat.lt_of_le_of_lt (Nat.le_trans hle hQP) hP6
              clear s1 s2 hgc hb3 HA
              go_wp2_with fail
              go_roundw
              case rel => exact ⟨P2, Q2, hP26, by omega, HS1.out, HS2.out, HG2.out, HB3.out⟩
              case measure => exact HMS.out
      · have hcv : ¬ cmpV (P0 : Int) Q0 < 0 := fun h => hlt (cmpV_negI.1 h)
        generalize cmpV (P0 : Int) Q0 = cv at *
        have HCC := hide HC
        clear HC
        go_enter Tryd.func12, Tryd.ntmps12
        go_wp2_with fail
        refine H0.out.mono ?_
        rintro e w' ⟨rfl, rfl⟩
        go_wp2_with fail
        refine H1.out.mono ?_
        rintro e w' ⟨rfl, rfl⟩
        go_wp2_with fail
        refine HCC.out.mono ?_
        rintro e w' ⟨rfl, d, rfl⟩
        have hbd := below_drewN (Below.refl w.heap.size w) d
        clear HCC
        go_wp2_with fail
        go_loopw [0, 1] (fun a b wr => ∃ P Q : Nat, P < 1000000000 ^ 60 ∧ Q ≤ P ∧ RdN wr a P ∧ RdN wr b Q ∧ Hid (Nat.gcd P Q = G) ∧ Below w.heap.size w wr) (fun _ b wr => numR b wr)
        case atStart => exact ⟨P0, Q0, hP6, by omega, HP0.out _ hbd, HQ0.out _ hbd, HGE.out.symm, hbd⟩
        case round =>
          clear HP0 HQ0 hP6 hQ6 hbd
          obtain ⟨P, Q, hP6, hQP, ⟨A1, c1, rfl, r1⟩, ⟨A2, c2, rfl, r2⟩, HG, hbl⟩ := hrel
          have hpl := limbs_len.2 hP6
          have hql := limbs_len.2 (Nat.lt_of_le_of_lt hQP hP6)
          have hbs := hbl.size
          by_cases h0 : Q = 0
          · subst h0
            have HE : Hid (P = G) := by have := HG.out; rwa [Nat.gcd_zero_right] at this
            have hl0 : (limbs 0).length = 0 := by rw [limbs_zero]; rfl
            have HW := hide (impl_widened wr wr.heap.size (Nat.le_refl _) A1 (limbs P).length c1 (limbs P).length (limbs P) rfl r1 (Nat.le_refl _) (by omega))
            clear r1 r2 HG
            go_wp2_with fail
            refine HW.out.mono ?_
            rintro e w2 ⟨g, rfl, hg, hblk, hb2⟩
            have hgl := hblk.lt
            have hO := hblk.own (limbs P).length (limbs P).length (by simp)
            rw [Nat.sub_self, List.replicate_zero, List.append_nil, List.take_of_length_le (Nat.le_refl _)] at hO
            have HO := hide (hO.wider (lo' := w.heap.size) (hi' := w2.heap.size) (by omega) hgl)
            have HB2 := hide (hbl.trans (hb2.mono hbs))
            clear hblk hO hb2 HW
            go_wp2_with fail
            go_ret
            exact ⟨_, rfl, by rw [← HE.out]; exact HO.out, HB2.out⟩
          · have hq0 : 0 < (limbs Q).length := List.length_pos_iff.2 (fun e => h0 (limbs_nil.1 e))
            by_cases h2 : (limbs P).length ≤ 2
            · have hp18 : P ≤ 999999999999999999 := by have := limbs_len.1 h2; omega
              have hq2 : (limbs Q).length ≤ 2 := limbs_len.2 (Nat.lt_of_le_of_lt hQP (limbs_len.1 h2))
              have H1 := impl_leading wr wr.heap.size A1 (limbs P).length c1 2 (limbs P) rfl r1 (limbs_ok P) (Nat.le_refl _) h2 (by omega)
              have H2 := impl_leading wr wr.heap.size A2 (limbs Q).length c2 2 (limbs Q) rfl r2 (limbs_ok Q) (Nat.le_refl _) hq2 (by omega)
              rw [Nat.sub_self, List.drop_zero, val_limbs] at H1 H2
              have H3 := impl_gcdInts wr P Q (by omega) (by omega)
              rw [HG.out] at H3
              have hg18 : G ≤ 999999999999999999 := by
                rw [← HG.out]; exact Nat.le_trans (Nat.gcd_le_right _ (by omega)) (by omega)
              have HH1 := hide H1
              have HH2 := hide H2
              have HH3 := hide H3
              have HO := hide (fun d : Nat => impl_NatOf (wr.drewN d) (wr.drewN d).heap.size (Nat.le_refl _) (G : Int) (WalkArith.wf_i64 ⟨by omega, by omega⟩))
              clear r1 r2 HG H1 H2 H3
              go_wp2_with fail
              refine HH1.out.mono ?_
              rintro e w' ⟨rfl, rfl⟩
              go_wp2_with fail
              refine HH2.out.mono ?_
              rintro e w' ⟨rfl, rfl⟩
              go_wp2_with fail
              refine HH3.out.mono ?_
              rintro e w' ⟨rfl, d, rfl⟩
              go_wp2_with fail
              refine (HO.out d).mono ?_
              rintro e w5 ⟨v, rfl, o5, hb5⟩
              rw [Int.toNat_natCast] at o5
              have hbd := below_drewN hbl d
              have HO5 := hide (o5.wider (lo' := w.heap.size) (hi' := w5.heap.size) hbd.size (Nat.le_refl _))
              have HB5 := hide (hbd.trans (hb5.mono hbd.size))
              clear o5 hb5 hbd HO HH1 HH2 HH3
              go_wp2_with fail
              go_ret
              exact ⟨_, rfl, HO5.out, HB5.out⟩
            · have HA := hide (impl_after wr A1 A2 c1 c2 P Q r1 r2 hP6 hQP (by omega) (by omega))
              have HR2 : Hid (RdN wr (.slice A2 (limbs Q).length c2) Q) := ⟨A2, c2, rfl, r2⟩
              have h2' : 2 < (limbs P).length := by omega
              clear r1 r2 h2
              go_wp2_with fail
              refine HA.out.mono ?_
              rintro e w3 ⟨v1, v2, P2, Q2, rfl, s1, s2, hgc, hlt, hle, hb3⟩
              have HS1 := hide s1
              have HS2 := hide s2
              have HG2 : Hid (Nat.gcd P2 Q2 = G) := hgc.trans HG.out
              have HB3 := hide (hbl.trans (hb3.mono hbs))
              have HMS : Hid (numR v2 w3 < numR (.slice A2 (limbs Q).length c2) wr) := by
                show _ < _
                rw [numR_eq s2, numR_eq HR2.out]; omega
              have hP26 : P2 < 1000000000 ^ 60 := Nat.lt_of_le_of_lt (Nat.le_trans hle hQP) hP6
              clear s1 s2 hgc hb3 HA
              go_wp2_with fail
              go_roundw
              case rel => exact ⟨P2, Q2, hP26, by omega, HS1.out, HS2.out, HG2.out, HB3.out⟩
              case measure => exact HMS.out
    · have h1' : natB xs1 = false := by simpa using h1
      have HE : Hid (gcdL xs0 xs1 = []) := by show _ = _; rw [gcdL, h1']; simp
      clear R0 R1 h1
      go_enter Tryd.func12, Tryd.ntmps12
      go_wp2_with fail
      refine H0.out.mono ?_
      rintro e w' ⟨rfl, rfl⟩
      go_wp2_with fail
      refine H1.out.mono ?_
      rintro e w' ⟨rfl, rfl⟩
      go_wp2_with fail
      go_ret
      exact ⟨_, rfl, by rw [HE.out]; exact Own.nil _ _ _ _, Below.refl _ _⟩
  · have h0' : natB xs0 = false := by simpa using h0
    have HE : Hid (gcdL xs0 xs1 = []) := by show _ = _; rw [gcdL, h0']; simp
    clear R0 R1 h0
    go_enter Tryd.func12, Tryd.ntmps12
    go_wp2_with fail
    refine H0.out.mono ?_
    rintro e w' ⟨rfl, rfl⟩
    go_wp2_with fail
    go_ret
    exact ⟨_, rfl, by rw [HE.out]; exact Own.nil _ _ _ _, Below.refl _ _⟩
end Go.Proofs.YtalcknddegfkaaaDoor
