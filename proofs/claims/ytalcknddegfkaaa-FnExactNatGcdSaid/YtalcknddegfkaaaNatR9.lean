/-
  The reference's natural numbers: contracts (9): l02Plain, l02Gcd, NatGcd.
-/
import Derived.Test.YtalcknddegfkaaaNatI4
import Derived.Test.YtalcknddegfkaaaNatR8
namespace Go.Proofs.Ytalcknddegfkaaa
open Go.RowKit
set_option linter.unusedVariables false

set_option maxHeartbeats 800000 in
theorem spec_Plain (w : World) (x y : Nat) (hx : x ≤ 9223372036854775807) (hy : y ≤ 9223372036854775807) :
    Calls Try.prog 65 #[.int .i64 x, .int .i64 y] w fun e w' => ∃ v, e = .returned v ∧ w'.ownsRow w.heap.size 3 1 v (limbs (Nat.gcd x y)).length (iv (limbs (Nat.gcd x y))) ∧ Below w.heap.size w w' := by
  go_enter Try.func65, Try.ntmps65
  go_wp2_with fail
  go_loop [0, 1] (fun a b => ∃ p q : Nat, a = .int .i64 p ∧ b = .int .i64 q ∧ p ≤ 9223372036854775807 ∧ q ≤ 9223372036854775807 ∧ Hid (Nat.gcd p q = Nat.gcd x y)) (fun _ b => (intOf b).toNat)
  case atStart => exact ⟨x, y, rfl, rfl, hx, hy, rfl⟩
  case round =>
    obtain ⟨p, q, rfl, rfl, hp, hq, H⟩ := hrel
    by_cases h0 : q = 0
    · subst h0
      have HG : Hid (p = Nat.gcd x y) := by have := H.out; rwa [Nat.gcd_zero_right] at this
      have HO := hide (spec_NatOf w w.heap.size (Nat.le_refl _) (p : Int) (WalkArith.wf_i64 ⟨by omega, by omega⟩))
      clear H
      go_wp2_with fail
      refine HO.out.mono ?_
      rintro e w1 ⟨v, rfl, o, hb⟩
      rw [Int.toNat_natCast, HG.out] at o
      have HO1 := hide o
      clear o
      go_wp2_with fail
      go_ret
      exact ⟨_, rfl, HO1.out, hb⟩
    · have hm : Int.tmod (p : Int) (q : Int) = ((p % q : Nat) : Int) := by rw [Int.tmod_eq_emod_of_nonneg (by omega)]; rfl
      have hl : p % q < q := Nat.mod_lt _ (by omega)
      have HG : Hid (Nat.gcd q (p % q) = Nat.gcd x y) := by
        show _ = _
        rw [← H.out, Nat.gcd_comm p q, Nat.gcd_rec q p, Nat.gcd_comm]
      have hqz : ((q : Int) == 0) = false := by simp; omega
      clear H
      go_wp2_with fail
      go_round
      case rel => exact ⟨q, p % q, rfl, by simp, hq, by omega, HG⟩
      case measure => simp [intOf]; omega

theorem natV_limbs (n : Nat) : natV (limbs n) = n := by rw [natV, val_limbs]; simp
theorem natB_limbs {n : Nat} (h : n < 1000000000 ^ 60) : natB (limbs n) = true := (natB_iff _).2 ⟨limbs_canon n, limbs_len.2 h⟩
theorem RdI.of_own {w : World} {lo hi n c : Nat} {E : TypeId} {A : Option Addr} {xs : List Int} (o : Own w lo hi E (.slice A n c) n (iv xs)) (hl : n ≤ 1048576) (hw : Limbs xs) : RdI w w.heap.size A n xs :=
  ⟨by have := o.len; rwa [iv_len] at this, o.rd, hl, fun d hd => by have := hw d hd; exact WalkArith.wf_i64 ⟨by omega, by omega⟩⟩
theorem natInt_small {n : Nat} (h : (limbs n).length < 3) : natInt (limbs n) = n ∧ natIntOk (limbs n) = true ∧ n ≤ 999999999999999999 := by
  have h2 : n < 1000000000 ^ 2 := limbs_len.1 (by omega)
  have h3 : n ≤ 999999999999999999 := by omega
  have hok : natIntOk (limbs n) = true := by
    rw [natIntOk, natB_limbs (Nat.lt_of_lt_of_le h2 (Nat.pow_le_pow_right (by omega) (by omega))), val_limbs]
    simp; omega
  exact ⟨by rw [natInt, hok, val_limbs]; simp, hok, h3⟩
theorem iv_inj {xs ys : List Int} (h : iv xs = iv ys) : xs = ys := by
  have : ∀ (a b : List Int), iv a = iv b → a = b := by
    intro a
    induction a with
    | nil => intro b hb; cases b with
      | nil => rfl
      | cons y r => simp [iv] at hb
    | cons x a ih => intro b hb; cases b with
      | nil => simp [iv] at hb
      | cons y r =>
        simp only [iv, List.map_cons, List.cons.injEq, Value.int.injEq, true_and] at hb
        rw [hb.1, ih r hb.2]
  exact this xs ys h
theorem Own.uniq {w : World} {lo hi n m : Nat} {E : TypeId} {v : Value} {xs ys : List Value} (a : Own w lo hi E v n xs) (b : Own w lo hi E v m ys) : xs = ys := by
  have la := a.1
  have lb := b.1
  rcases a.2 with ⟨h1, h2⟩ | ⟨g, c, cur, hv, _, _, _, _, hg, r⟩
  · rcases b.2 with ⟨_, h4⟩ | ⟨g', c', cur', hv', _⟩
    · rw [List.eq_nil_of_length_eq_zero (la.trans h2), List.eq_nil_of_length_eq_zero (lb.trans h4)]
    · rw [h1] at hv'; cases hv'
  · rcases b.2 with ⟨h3, _⟩ | ⟨g', c', cur', hv', _, _, _, _, hg', r'⟩
    · rw [h3] at hv; cases hv
    · rw [hv] at hv'
      injection hv' with e1 e2 e3
      injection e1 with e1; injection e1 with e1
      subst e1 e2
      rw [hg] at hg'
      injection hg' with hg'; injection hg' with hg'
      subst hg'
      rw [← r, ← r']
theorem limbs_inj {a b : Nat} (h : limbs a = limbs b) : a = b := by rw [← natV_limbs a, h, natV_limbs]
/-- the number that a list of the call's own holds -/
noncomputable def numOf (lo : Nat) (E : TypeId) (v : Value) (w : World) : Nat :=
  open Classical in if h : ∃ Y, Own w lo w.heap.size E v (limbs Y).length (iv (limbs Y)) then Classical.choose h else 0
theorem numOf_eq {lo : Nat} {E : TypeId} {v : Value} {w : World} {Y : Nat} (h : Own w lo w.heap.size E v (limbs Y).length (iv (limbs Y))) : numOf lo E v w = Y := by
  unfold numOf
  have he : ∃ Y, Own w lo w.heap.size E v (limbs Y).length (iv (limbs Y)) := ⟨Y, h⟩
  rw [dif_pos he]
  exact limbs_inj (iv_inj ((Classical.choose_spec he).uniq h))
set_option maxRecDepth 100000 in
set_option maxHeartbeats 3200000 in
theorem spec_Gcd (w : World) (B : Nat) (hB : B ≤ w.heap.size) (A A' : Option Addr) (n m c c' : Nat) (xs ys : List Int) (hn : xs.length = n) (hm : ys.length = m) (hx : Rd w B A (iv xs)) (hy : Rd w B A' (iv ys)) (hbx : natB xs = true) (hby : natB ys = true) :
    Calls Try.prog 50 #[.slice A n c, .slice A' m c'] w fun e w' => ∃ v, e = .returned v ∧ Own w' w.heap.size w'.heap.size 3 v (limbs (Nat.gcd (natV xs) (natV ys))).length (iv (limbs (Nat.gcd (natV xs) (natV ys)))) ∧ Below w.heap.size w w' := by
  have hX := limbs_natV hbx
  have hY := limbs_natV hby
  have hX6 := natV_lt60 hbx
  have hY6 := natV_lt60 hby
  generalize natV xs = X0 at *
  generalize natV ys = Y0 at *
  subst hX hY
  obtain ⟨G, hG⟩ : ∃ G, G = Nat.gcd X0 Y0 := ⟨_, rfl⟩
  rw [← hG]
  have hxl := limbs_len.2 hX6
  have hyl := limbs_len.2 hY6
  have hNEW := World.ownsRow_made (base := w.heap.size) (e := 3) (size := 1) w #[] 0 (Nat.le_refl _) (by unfold maxLen; omega) rfl
  have hbA := (Below.refl w.heap.size w).alloc (Nat.le_refl _) (.cells #[] 3)
  have HRX := hide (hx.below (hbA.mono hB))
  have HRY := hide (hy.below (hbA.mono hB))
  have HN1 := hide hNEW
  have HBA := hide hbA
  subst hn hm
  clear hx hNEW hbA
  go_enter Try.func50, Try.ntmps50
  go_wp2_with (at_builtin; first
    | (refine wpList_append_rd Try.sliceInt rfl rfl _ _ rfl _ w.heap.size _ 0 [] HN1.out rfl B A (limbs X0).length c (iv (limbs X0)) rfl (iv_len _) HRX.out (iv_one _) (by unfold maxLen; omega) (by omega) (by simp) ?_; intro v1 w1 hown1 hb1; have hs1 := hb1.size; have HN2 := hide (World.ownsRow_made (base := w1.heap.size) (e := 3) (size := 1) w1 #[] 0 (Nat.le_refl _) (by unfold maxLen; omega) rfl); have HRY2 := hide ((HRY.out.below (hb1.mono hB)).alloc (Nat.le_trans hB (Nat.le_trans HBA.out.size hs1)) (.cells #[] 3)))
    | (refine wpList_append_rd Try.sliceInt rfl rfl _ _ rfl _ w1.heap.size _ 0 [] HN2.out rfl B A' (limbs Y0).length c' (iv (limbs Y0)) rfl (iv_len _) HRY2.out (iv_one _) (by unfold maxLen; omega) (by omega) (by simp) ?_; intro v2 w2 hown2 hb2))
  have hbw1 : Below w.heap.size w w1 := HBA.out.trans hb1
  have hb2' : Below w1.heap.size w1 w2 := ((Below.refl _ _).alloc (Nat.le_refl _) _).trans hb2
  have ho1 : Own w2 w.heap.size w2.heap.size 3 v1 (limbs X0).length (iv (limbs X0)) := by
    have h1 : w1.ownsRow w.heap.size 3 1 v1 (limbs X0).length (iv (limbs X0)) := by simpa using hown1
    exact (Own.of_row h1 (Nat.le_refl _)).below hb2' (Nat.le_refl _) |>.wider (Nat.le_refl _) hb2'.size
  have ho2 : Own w2 w.heap.size w2.heap.size 3 v2 (limbs Y0).length (iv (limbs Y0)) := by
    have h1 : w2.ownsRow w1.heap.size 3 1 v2 (limbs Y0).length (iv (limbs Y0)) := by simpa using hown2
    exact (Own.of_row h1 (Nat.le_refl _)).wider hbw1.size (Nat.le_refl _)
  have hbw2 := hbw1.trans (hb2'.mono hbw1.size)
  clear hown1 hown2 hb1 hb2 HN1 HN2 HRX HRY HRY2 HBA hbw1 hb2' hy hs1
  go_loopw [5, 6] (fun a b wr => ∃ X Y : Nat, X < 1000000000 ^ 60 ∧ Y < 1000000000 ^ 60 ∧ Own wr w.heap.size wr.heap.size 3 a (limbs X).length (iv (limbs X)) ∧ Own wr w.heap.size wr.heap.size 3 b (limbs Y).length (iv (limbs Y)) ∧ Hid (Nat.gcd X Y = G) ∧ Below w.heap.size w wr) (fun _ b wr => numOf w.heap.size 3 b wr)
  case atStart => exact ⟨X0, Y0, hX6, hY6, ho1, ho2, hG.symm, hbw2⟩
  case round =>
    clear hX6 hY6 ho1 ho2 hG hbw2 hbx hby hxl hyl
    obtain ⟨X, Y, hX6, hY6, ho1, ho2, HG, hbl⟩ := hrel
    obtain ⟨A1, c1, rfl⟩ := ho1.form
    obtain ⟨A2, c2, rfl⟩ := ho2.form
    have hxl := limbs_len.2 hX6
    have hyl := limbs_len.2 hY6
    have hbs := hbl.size
    by_cases h0 : Y = 0
    · subst h0
      have HE : Hid (X = G) := by have := HG.out; rwa [Nat.gcd_zero_right] at this
      have hl0 : (limbs 0).length = 0 := by rw [limbs_zero]; rfl
      have HO1 := hide ho1
      clear HG ho1 ho2
      go_wp2_with fail
      go_ret
      exact ⟨_, rfl, by rw [← HE.out]; exact HO1.out, hbl⟩
    · have hy0 : 0 < (limbs Y).length := List.length_pos_iff.2 (fun e => h0 (limbs_nil.1 e))
      by_cases hs : (limbs X).length < 3 ∧ (limbs Y).length < 3
      · obtain ⟨hsx, hsy⟩ := hs
        obtain ⟨a1, a2, a3⟩ := natInt_small hsx
        obtain ⟨b1, b2, b3⟩ := natInt_small hsy
        have HT1 := spec_NatToInt wr wr.heap.size (Nat.le_refl _) A1 (limbs X).length c1 (limbs X) (RdI.of_own ho1 (by omega) (limbs_ok X))
        rw [a1, a2] at HT1
        have HTX := hide HT1
        have HT2 := fun (w3 : World) (hb : Below wr.heap.size wr w3) => spec_NatToInt w3 wr.heap.size hb.size A2 (limbs Y).length c2 (limbs Y) ((RdI.of_own ho2 (by omega) (limbs_ok Y)).below hb)
        rw [b1, b2] at HT2
        have HTY := hide HT2
        have HP := hide (fun w3 : World => spec_Plain w3 X Y (by omega) (by omega))
        have HGG := hide HG.out
        clear HT1 HT2 ho1 ho2 HG a1 a2 b1 b2
        go_wp2_with fail
        refine HTX.out.mono ?_
        rintro e w3 ⟨rfl, hb3⟩
        have HB3 := hide hb3
        clear hb3
        go_wp2_with fail
        refine (HTY.out w3 HB3.out).mono ?_
        rintro e w4 ⟨rfl, hb4⟩
        have HB4 := hide hb4
        clear hb4
        go_wp2_with fail
        refine (HP.out w4).mono ?_
        rintro e w5 ⟨v, rfl, o5, hb5⟩
        rw [HGG.out] at o5
        have hs5 := hb5.size
        have hs4 := HB4.out.size
        have hs3 := HB3.out.size
        have HB5 := hide (hbl.trans ((HB3.out.trans (HB4.out.mono hs3)).mono hbs |>.trans (hb5.mono (by omega))))
        have HO5 := hide ((Own.of o5).wider (lo' := w.heap.size) (hi' := w5.heap.size) (by omega) (Nat.le_refl _))
        clear o5 hb5 HB3 HB4 HTX HTY HP
        go_wp2_with fail
        go_ret
        exact ⟨_, rfl, HO5.out, HB5.out⟩
      · have HD := hide (spec_Div wr wr.heap.size (Nat.le_refl _) A1 A2 (limbs X).length (limbs Y).length c1 c2 (limbs X) (limbs Y) rfl rfl ho1.rd ho2.rd (by omega) (by omega) (limbs_canon _) (limbs_canon _) hy0)
        have hr : (val (limbs X) % val (limbs Y)).toNat = X % Y := by rw [val_limbs, val_limbs, rem_nat]
        have hm6 : X % Y < 1000000000 ^ 60 := Nat.lt_of_le_of_lt (Nat.mod_le _ _) hX6
        have HG2 : Hid (Nat.gcd Y (X % Y) = G) := by
          show _ = _
          rw [← HG.out, Nat.gcd_comm X Y, Nat.gcd_rec Y X, Nat.gcd_comm]
        have HO2 := hide ho2
        have HH := hide hr
        clear HG ho1 ho2
        by_cases hsx : (limbs X).length < 3
        · have hsy : ¬ (limbs Y).length < 3 := fun h => hs ⟨hsx, h⟩
          clear hs
          go_wp2_with fail
          refine HD.out.mono ?_
          rintro e w3 ⟨v1, v2, rfl, ⟨l1, h1, l2, h2, _, ob, _, hl2, _, hh2, _⟩, hb3⟩
          rw [hr] at ob
          have hbl3 := hbl.trans (hb3.mono hbs)
          have HO3 := hide ((HO2.out.below hb3 (Nat.le_refl _)).wider (Nat.le_refl _) hb3.size)
          have HOB := hide (ob.wider (by omega : w.heap.size ≤ l2) hh2)
          have hms : numOf w.heap.size 3 v2 w3 < numOf w.heap.size 3 (.slice A2 (limbs Y).length c2) wr := by
            rw [numOf_eq HOB.out, numOf_eq HO2.out]; exact Nat.mod_lt _ (by omega)
          have HMS := hide hms
          clear ob hb3 hms
          go_wp2_with fail
          go_roundw
          case rel => exact ⟨Y, X % Y, hY6, hm6, HO3.out, HOB.out, HG2.out, hbl3⟩
          case measure => exact HMS.out
        · clear hs
          go_wp2_with fail
          refine HD.out.mono ?_
          rintro e w3 ⟨v1, v2, rfl, ⟨l1, h1, l2, h2, _, ob, _, hl2, _, hh2, _⟩, hb3⟩
          rw [hr] at ob
          have hbl3 := hbl.trans (hb3.mono hbs)
          have HO3 := hide ((HO2.out.below hb3 (Nat.le_refl _)).wider (Nat.le_refl _) hb3.size)
          have HOB := hide (ob.wider (by omega : w.heap.size ≤ l2) hh2)
          have hms : numOf w.heap.size 3 v2 w3 < numOf w.heap.size 3 (.slice A2 (limbs Y).length c2) wr := by
            rw [numOf_eq HOB.out, numOf_eq HO2.out]; exact Nat.mod_lt _ (by omega)
          have HMS := hide hms
          clear ob hb3 hms
          go_wp2_with fail
          go_roundw
          case rel => exact ⟨Y, X % Y, hY6, hm6, HO3.out, HOB.out, HG2.out, hbl3⟩
          case measure => exact HMS.out

theorem gcdL_ok {a b : List Int} (ha : natB a = true) (hb : natB b = true) : limbs (Nat.gcd (natV a) (natV b)) = gcdL a b := by rw [gcdL, ha, hb]; rfl
set_option maxHeartbeats 1600000 in
theorem spec_NatGcd (w : World) (B : Nat) (hB : B ≤ w.heap.size) (A0 : Option Addr) (n0 c0 : Nat) (xs0 : List Int) (R0 : RdI w B A0 n0 xs0) (A1 : Option Addr) (n1 c1 : Nat) (xs1 : List Int) (R1 : RdI w B A1 n1 xs1) :
    Calls Try.prog 33 #[.slice A0 n0 c0, .slice A1 n1 c1] w fun e w' => ∃ v, e = .returned v ∧ Own w' w.heap.size w'.heap.size 3 v (gcdL xs0 xs1).length (iv (gcdL xs0 xs1)) ∧ Below w.heap.size w w' := by
  have H0 := hide (spec_NatOk w B hB A0 n0 c0 xs0 R0)
  have H1 := hide (spec_NatOk w B hB A1 n1 c1 xs1 R1)
  by_cases h0 : natB xs0 = true
  · by_cases h1 : natB xs1 = true
    · have HD := spec_Gcd w B hB A0 A1 n0 n1 c0 c1 xs0 xs1 R0.1 R1.1 R0.2.1 R1.2.1 h0 h1
      rw [gcdL_ok h0 h1] at HD
      have HDD := hide HD
      clear R0 R1 HD
      go_enter Try.func33, Try.ntmps33
      go_wp2_with fail
      refine H0.out.mono ?_
      rintro e w' ⟨rfl, rfl⟩
      go_wp2_with fail
      refine H1.out.mono ?_
      rintro e w' ⟨rfl, rfl⟩
      go_wp2_with fail
      refine HDD.out.mono ?_
      rintro e w2 ⟨v, rfl, o, hb⟩
      have HO := hide o
      clear o
      go_wp2_with fail
      go_ret
      exact ⟨_, rfl, HO.out, hb⟩
    · have h1' : natB xs1 = false := by simpa using h1
      have HE : Hid (gcdL xs0 xs1 = []) := by show _ = _; rw [gcdL, h1']; simp
      clear R0 R1 h1
      go_enter Try.func33, Try.ntmps33
      go_wp2_with fail
      refine H0.out.mono ?_
      rintro e w' ⟨rfl, rfl⟩
      go_wp2_with fail
      refine H1.out.mono ?_
      rintro e w' ⟨rfl, rfl⟩
      go_wp2_with fail
      go_ret
      exact ⟨_, rfl, by rw [HE.out]; exact Own.nil _ _ _ _, Below.refl _ _⟩
  · have h0' : natB xs0 = false := by simpa using h0
    have HE : Hid (gcdL xs0 xs1 = []) := by show _ = _; rw [gcdL, h0']; simp
    clear R0 R1 h0
    go_enter Try.func33, Try.ntmps33
    go_wp2_with fail
    refine H0.out.mono ?_
    rintro e w' ⟨rfl, rfl⟩
    go_wp2_with fail
    go_ret
    exact ⟨_, rfl, by rw [HE.out]; exact Own.nil _ _ _ _, Below.refl _ _⟩
end Go.Proofs.Ytalcknddegfkaaa
