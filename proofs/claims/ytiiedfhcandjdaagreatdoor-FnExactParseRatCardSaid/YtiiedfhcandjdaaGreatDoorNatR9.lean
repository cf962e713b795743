/-
  The reference's natural numbers: contracts (9): l02Plain, l02Gcd, NatGcd.
-/
import Derived.Test.YtiiedfhcandjdaaGreatDoorIA
import Derived.Test.YtiiedfhcandjdaaGreatDoorNatR8
namespace Go.Proofs.YtiiedfhcandjdaaGreatDoor
open Go.RowKit
set_option linter.unusedVariables false

set_option maxHeartbeats 800000 in
theorem spec_Plain (w : World) (x y : Nat) (hx : x ≤ 9223372036854775807) (hy : y ≤ 9223372036854775807) :
    Calls Tryz.prog 59 #[.int .i64 x, .int .i64 y] w fun e w' => ∃ v, e = .returned v ∧ w'.ownsRow w.heap.size 3 1 v (limbs (Nat.gcd x y)).length (iv (limbs (Nat.gcd x y))) ∧ Below w.heap.size w w' := by
  go_enter Tryz.func59, Tryz.ntmps59
  go_wp2_with fail
  go_loop [0, 1] (fun a b => ∃ p q : Nat, a = .int .i64 p ∧ b = .int .i64 q ∧ p ≤ 9223372036854775807 ∧ q ≤ 9223372036854775807 ∧ Hid (Nat.gcd p q = Nat.gcd x y)) (fun _ b => (intOf b).toNat)
  case atStart => exact ⟨x, y, rfl, rfl, hx, hy, rfl⟩
  case round =>
    obtain ⟨p, q, rfl, rfl, hp, hq, H⟩ := hrel
    by_cases h0 : q = 0
    · subst h0
      have HG : Hid (p = Nat.gcd x y) := by have := H.out; rwa [Nat.gcd_zero_right] at this
      have HO := hide (spec_NatOf w w.heap.size (Nat.le_refl _) (p : Int) (WalkArith.wf_i64 ⟨by omega, by omega⟩))
      clear H
      go_wp2_with fail
      refine HO.out.mono ?_
      rintro e w1 ⟨v, rfl, o, hb⟩
      rw [Int.toNat_natCast, HG.out] at o
      have HO1 := hide o
      clear o
      go_wp2_with fail
      go_ret
      exact ⟨_, rfl, HO1.out, hb⟩
    · have hm : Int.tmod (p : Int) (q : Int) = ((p % q : Nat) : Int) := by rw [Int.tmod_eq_emod_of_nonneg (by omega)]; rfl
      have hl : p % q < q := Nat.mod_lt _ (by omega)
      have HG : Hid (Nat.gcd q (p % q) = Nat.gcd x y) := by
        show _ = _
        rw [← H.out, Nat.gcd_comm p q, Nat.gcd_rec q p, Nat.gcd_comm]
      have hqz : ((q : Int) == 0) = false := by simp; omega
      clear H
      go_wp2_with fail
      go_round
      case rel => exact ⟨q, p % q, rfl, by simp, hq, by omega, HG⟩
      case measure => simp [intOf]; omega
set_option maxRecDepth 100000 in
set_option maxHeartbeats 3200000 in
theorem spec_Gcd (w : World) (B : Nat) (hB : B ≤ w.heap.size) (A A' : Option Addr) (n m c c' : Nat) (xs ys : List Int) (hn : xs.length = n) (hm : ys.length = m) (hx : Rd w B A (iv xs)) (hy : Rd w B A' (iv ys)) (hbx : natB xs = true) (hby : natB ys = true) :
    Calls Tryz.prog 42 #[.slice A n c, .slice A' m c'] w fun e w' => ∃ v, e = .returned v ∧ Own w' w.heap.size w'.heap.size 3 v (limbs (Nat.gcd (natV xs) (natV ys))).length (iv (limbs (Nat.gcd (natV xs) (natV ys)))) ∧ Below w.heap.size w w' := by
  have hX := limbs_natV hbx
  have hY := limbs_natV hby
  have hX6 := natV_lt60 hbx
  have hY6 := natV_lt60 hby
  generalize natV xs = X0 at *
  generalize natV ys = Y0 at *
  subst hX hY
  obtain ⟨G, hG⟩ : ∃ G, G = Nat.gcd X0 Y0 := ⟨_, rfl⟩
  rw [← hG]
  have hxl := limbs_len.2 hX6
  have hyl := limbs_len.2 hY6
  have hNEW := World.ownsRow_made (base := w.heap.size) (e := 3) (size := 1) w #[] 0 (Nat.le_refl _) (by unfold maxLen; omega) rfl
  have hbA := (Below.refl w.heap.size w).alloc (Nat.le_refl _) (.cells #[] 3)
  have HRX := hide (hx.below (hbA.mono hB))
  have HRY := hide (hy.below (hbA.mono hB))
  have HN1 := hide hNEW
  have HBA := hide hbA
  subst hn hm
  clear hx hNEW hbA
  go_enter Tryz.func42, Tryz.ntmps42
  go_wp2_with (at_builtin; first
    | (refine wpList_append_rd Tryz.sliceInt rfl rfl _ _ rfl _ w.heap.size _ 0 [] HN1.out rfl B A (limbs X0).length c (iv (limbs X0)) rfl (iv_len _) HRX.out (iv_one _) (by unfold maxLen; omega) (by omega) (by simp) ?_; intro v1 w1 hown1 hb1; have hs1 := hb1.size; have HN2 := hide (World.ownsRow_made (base := w1.heap.size) (e := 3) (size := 1) w1 #[] 0 (Nat.le_refl _) (by unfold maxLen; omega) rfl); have HRY2 := hide ((HRY.out.below (hb1.mono hB)).alloc (Nat.le_trans hB (Nat.le_trans HBA.out.size hs1)) (.cells #[] 3)))
    | (refine wpList_append_rd Tryz.sliceInt rfl rfl _ _ rfl _ w1.heap.size _ 0 [] HN2.out rfl B A' (limbs Y0).length c' (iv (limbs Y0)) rfl (iv_len _) HRY2.out (iv_one _) (by unfold maxLen; omega) (by omega) (by simp) ?_; intro v2 w2 hown2 hb2))
  have hbw1 : Below w.heap.size w w1 := HBA.out.trans hb1
  have hb2' : Below w1.heap.size w1 w2 := ((Below.refl _ _).alloc (Nat.le_refl _) _).trans hb2
  have ho1 : Own w2 w.heap.size w2.heap.size 3 v1 (limbs X0).length (iv (limbs X0)) := by
    have h1 : w1.ownsRow w.heap.size 3 1 v1 (limbs X0).length (iv (limbs X0)) := by simpa using hown1
    exact (Own.of_row h1 (Nat.le_refl _)).below hb2' (Nat.le_refl _) |>.wider (Nat.le_refl _) hb2'.size
  have ho2 : Own w2 w.heap.size w2.heap.size 3 v2 (limbs Y0).length (iv (limbs Y0)) := by
    have h1 : w2.ownsRow w1.heap.size 3 1 v2 (limbs Y0).length (iv (limbs Y0)) := by simpa using hown2
    exact (Own.of_row h1 (Nat.le_refl _)).wider hbw1.size (Nat.le_refl _)
  have hbw2 := hbw1.trans (hb2'.mono hbw1.size)
  clear hown1 hown2 hb1 hb2 HN1 HN2 HRX HRY HRY2 HBA hbw1 hb2' hy hs1
  go_loopw [5, 6] (fun a b wr => ∃ X Y : Nat, X < 1000000000 ^ 60 ∧ Y < 1000000000 ^ 60 ∧ Own wr w.heap.size wr.heap.size 3 a (limbs X).length (iv (limbs X)) ∧ Own wr w.heap.size wr.heap.size 3 b (limbs Y).length (iv (limbs Y)) ∧ Hid (Nat.gcd X Y = G) ∧ Below w.heap.size w wr) (fun _ b wr => numOf w.heap.size 3 b wr)
  case atStart => exact ⟨X0, Y0, hX6, hY6, ho1, ho2, hG.symm, hbw2⟩
  case round =>
    clear hX6 hY6 ho1 ho2 hG hbw2 hbx hby hxl hyl
    obtain ⟨X, Y, hX6, hY6, ho1, ho2, HG, hbl⟩ := hrel
    obtain ⟨A1, c1, rfl⟩ := ho1.form
    obtain ⟨A2, c2, rfl⟩ := ho2.form
    have hxl := limbs_len.2 hX6
    have hyl := limbs_len.2 hY6
    have hbs := hbl.size
    by_cases h0 : Y = 0
    · subst h0
      have HE : Hid (X = G) := by have := HG.out; rwa [Nat.gcd_zero_right] at this
      have hl0 : (limbs 0).length = 0 := by rw [limbs_zero]; rfl
      have HO1 := hide ho1
      clear HG ho1 ho2
      go_wp2_with fail
      go_ret
      exact ⟨_, rfl, by rw [← HE.out]; exact HO1.out, hbl⟩
    · have hy0 : 0 < (limbs Y).length := List.length_pos_iff.2 (fun e => h0 (limbs_nil.1 e))
      by_cases hs : (limbs X).length < 3 ∧ (limbs Y).length < 3
      · obtain ⟨hsx, hsy⟩ := hs
        obtain ⟨a1, a2, a3⟩ := natInt_small hsx
        obtain ⟨b1, b2, b3⟩ := natInt_small hsy
        have HT1 := spec_NatToInt wr wr.heap.size (Nat.le_refl _) A1 (limbs X).length c1 (limbs X) (RdI.of_own ho1 (by omega) (limbs_ok X))
        rw [a1, a2] at HT1
        have HTX := hide HT1
        have HT2 := fun (w3 : World) (hb : Below wr.heap.size wr w3) => spec_NatToInt w3 wr.heap.size hb.size A2 (limbs Y).length c2 (limbs Y) ((RdI.of_own ho2 (by omega) (limbs_ok Y)).below hb)
        rw [b1, b2] at HT2
        have HTY := hide HT2
        have HP := hide (fun w3 : World => spec_Plain w3 X Y (by omega) (by omega))
        have HGG := hide HG.out
        clear HT1 HT2 ho1 ho2 HG a1 a2 b1 b2
        go_wp2_with fail
        refine HTX.out.mono ?_
        rintro e w3 ⟨rfl, hb3⟩
        have HB3 := hide hb3
        clear hb3
        go_wp2_with fail
        refine (HTY.out w3 HB3.out).mono ?_
        rintro e w4 ⟨rfl, hb4⟩
        have HB4 := hide hb4
        clear hb4
        go_wp2_with fail
        refine (HP.out w4).mono ?_
        rintro e w5 ⟨v, rfl, o5, hb5⟩
        rw [HGG.out] at o5
        have hs5 := hb5.size
        have hs4 := HB4.out.size
        have hs3 := HB3.out.size
        have HB5 := hide (hbl.trans ((HB3.out.trans (HB4.out.mono hs3)).mono hbs |>.trans (hb5.mono (by omega))))
        have HO5 := hide ((Own.of o5).wider (lo' := w.heap.size) (hi' := w5.heap.size) (by omega) (Nat.le_refl _))
        clear o5 hb5 HB3 HB4 HTX HTY HP
        go_wp2_with fail
        go_ret
        exact ⟨_, rfl, HO5.out, HB5.out⟩
      · have HD := hide (spec_Div wr wr.heap.size (Nat.le_refl _) A1 A2 (limbs X).length (limbs Y).length c1 c2 (limbs X) (limbs Y) rfl rfl ho1.rd ho2.rd (by omega) (by omega) (limbs_canon _) (limbs_canon _) hy0)
        have hr : (val (limbs X) % val (limbs Y)).toNat = X % Y := by rw [val_limbs, val_limbs, rem_nat]
        have hm6 : X % Y < 1000000000 ^ 60 := Nat.lt_of_le_of_lt (Nat.mod_le _ _) hX6
        have HG2 : Hid (Nat.gcd Y (X % Y) = G) := by
          show _ = _
          rw [← HG.out, Nat.gcd_comm X Y, Nat.gcd_rec Y X, Nat.gcd_comm]
        have HO2 := hide ho2
        have HH := hide hr
        clear HG ho1 ho2
        by_cases hsx : (limbs X).length < 3
        · have hsy : ¬ (limbs Y).length < 3 := fun h => hs ⟨hsx, h⟩
          clear hs
          go_wp2_with fail
          refine HD.out.mono ?_
          rintro e w3 ⟨v1, v2, rfl, ⟨l1, h1, l2, h2, _, ob, _, hl2, _, hh2, _⟩, hb3⟩
          rw [hr] at ob
          have hbl3 := hbl.trans (hb3.mono hbs)
          have HO3 := hide ((HO2.out.below hb3 (Nat.le_refl _)).wider (Nat.le_refl _) hb3.size)
          have HOB := hide (ob.wider (by omega : w.heap.size ≤ l2) hh2)
          have hms : numOf w.heap.size 3 v2 w3 < numOf w.heap.size 3 (.slice A2 (limbs Y).length c2) wr := by
            rw [numOf_eq HOB.out, numOf_eq HO2.out]; exact Nat.mod_lt _ (by omega)
          have HMS := hide hms
          clear ob hb3 hms
          go_wp2_with fail
          go_roundw
          case rel => exact ⟨Y, X % Y, hY6, hm6, HO3.out, HOB.out, HG2.out, hbl3⟩
          case measure => exact HMS.out
        · clear hs
          go_wp2_with fail
          refine HD.out.mono ?_
          rintro e w3 ⟨v1, v2, rfl, ⟨l1, h1, l2, h2, _, ob, _, hl2, _, hh2, _⟩, hb3⟩
          rw [hr] at ob
          have hbl3 := hbl.trans (hb3.mono hbs)
          have HO3 := hide ((HO2.out.below hb3 (Nat.le_refl _)).wider (Nat.le_refl _) hb3.size)
          have HOB := hide (ob.wider (by omega : w.heap.size ≤ l2) hh2)
          have hms : numOf w.heap.size 3 v2 w3 < numOf w.heap.size 3 (.slice A2 (limbs Y).length c2) wr := by
            rw [numOf_eq HOB.out, numOf_eq HO2.out]; exact Nat.mod_lt _ (by omega)
          have HMS := hide hms
          clear ob hb3 hms
          go_wp2_with fail
          go_roundw
          case rel => exact ⟨Y, X % Y, hY6, hm6, HO3.out, HOB.out, HG2.out, hbl3⟩
          case measure => exact HMS.out
end Go.Proofs.YtiiedfhcandjdaaGreatDoor
