/-
  The reference's natural numbers: contracts (3): l02Add, NatAdd.
-/
import Derived.Test.YtalcknddegfkaaaNatR2
namespace Go.Proofs.Ytalcknddegfkaaa
open Go.RowKit
set_option linter.unusedVariables false

theorem add_step {P va q x y tx ty N : Int} (h : va + P * q = tx + ty) (hN : N = q + x + y) : va + P * (N % 1000000000) + P * 1000000000 * (N / 1000000000) = (tx + P * x) + (ty + P * y) := by
  have e : N % 1000000000 + 1000000000 * (N / 1000000000) = N := by omega
  have e2 : P * (N % 1000000000) + P * 1000000000 * (N / 1000000000) = P * N := by rw [Int.mul_assoc, ← Int.mul_add, e]
  rw [Int.add_assoc, e2, hN, Int.mul_add, Int.mul_add]
  omega
theorem val_take_step (l : List Int) (k : Nat) : val (l.take (k + 1)) = val (l.take k) + 1000000000 ^ k * l.getD k 0 := by
  by_cases h : k < l.length
  · rw [List.take_succ_eq_append_getElem h, val_append, List.length_take, Nat.min_eq_left (by omega), List.getD, List.getElem?_eq_getElem h]
    simp [val]
  · rw [List.take_of_length_le (by omega), List.take_of_length_le (by omega), List.getD, List.getElem?_eq_none (by omega)]
    simp
theorem val_snoc (l : List Int) (d : Int) : val (l ++ [d]) = val l + 1000000000 ^ l.length * d := by rw [val_append]; simp [val]
/-- the sum so far, with the carry behind it -/
def Sum (xs ys acc : List Int) (k : Nat) (q : Int) : Prop := acc.length = k ∧ Limbs acc ∧ val acc + 1000000000 ^ k * q = val (xs.take k) + val (ys.take k)
theorem Sum.next {xs ys acc : List Int} {k : Nat} {q x y N : Int} (h : Sum xs ys acc k q) (hx : xs.getD k 0 = x) (hy : ys.getD k 0 = y) (hN : N = q + x + y) (h0 : 0 ≤ N) : Sum xs ys (acc ++ [N % 1000000000]) (k + 1) (N / 1000000000) := by
  obtain ⟨h1, h2, h3⟩ := h
  refine ⟨by rw [List.length_append, h1]; rfl, h2.append (Limbs.mk (by omega) Limbs.nil), ?_⟩
  have := add_step (P := 1000000000 ^ k) h3 hN
  rw [val_snoc, h1, val_take_step, val_take_step, hx, hy, Int.pow_succ]
  exact this
theorem getD_in {l : List Int} {k : Nat} (h : k < l.length) : l.getD k 0 = l[k] := by rw [List.getD, List.getElem?_eq_getElem h]; rfl
theorem getD_out {l : List Int} {k : Nat} (h : l.length ≤ k) : l.getD k 0 = 0 := by rw [List.getD, List.getElem?_eq_none h]; rfl

set_option maxHeartbeats 3200000 in
theorem spec_Add (w : World) (B : Nat) (hB : B ≤ w.heap.size) (A A' : Option Addr) (n m c c' : Nat) (xs ys : List Int) (hn : xs.length = n) (hm : ys.length = m) (hx : Rd w B A (iv xs)) (hy : Rd w B A' (iv ys)) (hl : n ≤ 100000000) (hl' : m ≤ 100000000) (hlx : Limbs xs) (hly : Limbs ys) :
    Calls Try.prog 42 #[.slice A n c, .slice A' m c'] w fun e w' => ∃ v acc, e = .returned v ∧ w'.ownsRow w.heap.size 3 1 v acc.length (iv acc) ∧ Limbs acc ∧ val acc = val xs + val ys ∧ acc.length ≤ n + m + 1 ∧ Below w.heap.size w w' := by
  have hown0 := World.ownsRow_made (base := w.heap.size) (e := 3) (size := 1) w #[] 0 (Nat.le_refl _) (by unfold maxLen; omega) rfl
  have hb0 := (Below.refl w.heap.size w).alloc (Nat.le_refl _) (.cells #[] 3)
  go_enter Try.func42, Try.ntmps42
  go_wp2_with fail
  go_loopw [5, 6, 7] (fun v cq i wr => ∃ (k : Nat) (q : Int) (acc : List Int), i = .int .i64 k ∧ cq = .int .i64 q ∧ 0 ≤ q ∧ q ≤ 1 ∧ k ≤ n + m + 1 ∧ (k ≤ n + m ∨ q = 0) ∧ wr.ownsRow w.heap.size 3 1 v k (iv acc) ∧ w.heap.size ≤ wr.heap.size ∧ Below w.heap.size w wr ∧ Hid (Sum xs ys acc k q)) (fun _ _ i _ => n + m + 2 - (intOf i).toNat)
  case atStart => exact ⟨0, 0, [], rfl, rfl, by omega, by omega, by omega, by omega, hown0, by simp, hb0, ⟨rfl, Limbs.nil, by simp [val]⟩⟩
  case round =>
    clear hown0 hb0
    obtain ⟨k, q, acc, rfl, rfl, hq0, hq1, hk, hkq, hown, hsz, hbl, S⟩ := hrel
    have hrx := hx.below (hbl.mono hB)
    have hry := hy.below (hbl.mono hB)
    by_cases hkn : k < n
    · by_cases hkm : k < m
      · obtain ⟨ad, hA, hb1, hc1⟩ := hrx.int (k := k) (by omega)
        have hxb := hlx xs[k] (List.getElem_mem _)
        have gx := getD_in (l := xs) (k := k) (by omega)
        obtain ⟨ad', hA', hb2, hc2⟩ := hry.int (k := k) (by omega)
        have hyb := hly ys[k] (List.getElem_mem _)
        have gy := getD_in (l := ys) (k := k) (by omega)
        have HS := hide (S.out.next gx gy (N := q + xs[k] + ys[k]) (by omega) (by omega))
        generalize xs[k] = x at *
        generalize ys[k] = y at *
        clear gx gy S hrx hry hx hy hlx hly
        subst hA hA'
        obtain ⟨hx0, hx1⟩ := hxb
        obtain ⟨hy0, hy1⟩ := hyb
        go_wp2_with (at_builtin; refine wpList_append1 Try.sliceInt rfl _ _ rfl wr w.heap.size _ _ _ hown rfl #[.int .i64 ((q + x + y) % 1000000000)] 1 rfl rfl (by simp [Value.oneCell']) (by omega) (by omega) hsz ?_; intro v' w1 hown1 hb4)
        have hs1 := hb4.size
        go_roundw
        case rel => exact ⟨k + 1, (q + x + y) / 1000000000, acc ++ [(q + x + y) % 1000000000], by go_num, rfl, by omega, by omega, by omega, by omega, by simpa [iv] using hown1, by omega, hbl.trans hb4, HS⟩
        case measure => simp [intOf]; omega
      · obtain ⟨ad, hA, hb1, hc1⟩ := hrx.int (k := k) (by omega)
        have hxb := hlx xs[k] (List.getElem_mem _)
        have gx := getD_in (l := xs) (k := k) (by omega)
        have gy := getD_out (l := ys) (k := k) (by omega)
        have HS := hide (S.out.next gx gy (N := q + xs[k]) (by omega) (by omega))
        generalize xs[k] = x at *
        clear gx gy S hrx hry hx hy hlx hly
        subst hA
        obtain ⟨hx0, hx1⟩ := hxb
        go_wp2_with (at_builtin; refine wpList_append1 Try.sliceInt rfl _ _ rfl wr w.heap.size _ _ _ hown rfl #[.int .i64 ((q + x) % 1000000000)] 1 rfl rfl (by simp [Value.oneCell']) (by omega) (by omega) hsz ?_; intro v' w1 hown1 hb4)
        have hs1 := hb4.size
        go_roundw
        case rel => exact ⟨k + 1, (q + x) / 1000000000, acc ++ [(q + x) % 1000000000], by go_num, rfl, by omega, by omega, by omega, by omega, by simpa [iv] using hown1, by omega, hbl.trans hb4, HS⟩
        case measure => simp [intOf]; omega
    · by_cases hkm : k < m
      · have gx := getD_out (l := xs) (k := k) (by omega)
        obtain ⟨ad', hA', hb2, hc2⟩ := hry.int (k := k) (by omega)
        have hyb := hly ys[k] (List.getElem_mem _)
        have gy := getD_in (l := ys) (k := k) (by omega)
        have HS := hide (S.out.next gx gy (N := q + ys[k]) (by omega) (by omega))
        generalize ys[k] = y at *
        clear gx gy S hrx hry hx hy hlx hly
        subst hA'
        obtain ⟨hy0, hy1⟩ := hyb
        go_wp2_with (at_builtin; refine wpList_append1 Try.sliceInt rfl _ _ rfl wr w.heap.size _ _ _ hown rfl #[.int .i64 ((q + y) % 1000000000)] 1 rfl rfl (by simp [Value.oneCell']) (by omega) (by omega) hsz ?_; intro v' w1 hown1 hb4)
        have hs1 := hb4.size
        go_roundw
        case rel => exact ⟨k + 1, (q + y) / 1000000000, acc ++ [(q + y) % 1000000000], by go_num, rfl, by omega, by omega, by omega, by omega, by simpa [iv] using hown1, by omega, hbl.trans hb4, HS⟩
        case measure => simp [intOf]; omega
      · by_cases hq : 0 < q
        · have gx := getD_out (l := xs) (k := k) (by omega)
          have gy := getD_out (l := ys) (k := k) (by omega)
          have HS := hide (S.out.next gx gy (N := q) (by omega) (by omega))
          clear gx gy S hrx hry hx hy hlx hly
          go_wp2_with (at_builtin; refine wpList_append1 Try.sliceInt rfl _ _ rfl wr w.heap.size _ _ _ hown rfl #[.int .i64 ((q) % 1000000000)] 1 rfl rfl (by simp [Value.oneCell']) (by omega) (by omega) hsz ?_; intro v' w1 hown1 hb4)
          have hs1 := hb4.size
          go_roundw
          case rel => exact ⟨k + 1, (q) / 1000000000, acc ++ [(q) % 1000000000], by go_num, rfl, by omega, by omega, by omega, by omega, by simpa [iv] using hown1, by omega, hbl.trans hb4, HS⟩
          case measure => simp [intOf]; omega
        · obtain rfl : q = 0 := by omega
          obtain ⟨s1, s2, s3⟩ := S.out
          have HV : Hid (val acc = val xs + val ys) := by
            show _ = _
            rw [List.take_of_length_le (by omega), List.take_of_length_le (by omega)] at s3
            rw [← s3]; simp
          have HL := hide s2
          have HK := hide s1
          clear s1 s2 s3 S hrx hry hx hy hlx hly
          go_wp2_with fail
          go_ret
          exact ⟨_, rfl, acc, by rw [HK.out]; exact hown, HL.out, HV.out, by rw [HK.out]; exact hk, hbl⟩

theorem addL_ok {a b : List Int} (ha : natB a = true) (hb : natB b = true) {acc : List Int} (hl : Limbs acc) (hv : val acc = val a + val b) : capT acc = addL a b := by
  rw [addL, ha, hb]
  exact capT_capL hl (by rw [hv, ← natV_val ha, ← natV_val hb]; simp)

set_option maxHeartbeats 800000 in
theorem spec_NatAdd (w : World) (B : Nat) (hB : B ≤ w.heap.size) (A0 : Option Addr) (n0 c0 : Nat) (xs0 : List Int) (R0 : RdI w B A0 n0 xs0) (A1 : Option Addr) (n1 c1 : Nat) (xs1 : List Int) (R1 : RdI w B A1 n1 xs1) :
    Calls Try.prog 25 #[.slice A0 n0 c0, .slice A1 n1 c1] w fun e w' => ∃ v, e = .returned v ∧ w'.ownsRow w.heap.size 3 1 v (addL xs0 xs1).length (iv (addL xs0 xs1)) ∧ Below w.heap.size w w' := by
  have H0 := hide (spec_NatOk w B hB A0 n0 c0 xs0 R0)
  have H1 := hide (spec_NatOk w B hB A1 n1 c1 xs1 R1)
  by_cases h0 : natB xs0 = true
  · by_cases h1 : natB xs1 = true
    · obtain ⟨k0, l0⟩ := (natB_iff xs0).1 h0
      obtain ⟨k1, l1⟩ := (natB_iff xs1).1 h1
      have HC := hide (spec_Add w B hB A0 A1 n0 n1 c0 c1 xs0 xs1 R0.1 R1.1 R0.2.1 R1.2.1 (by have := R0.2.2.1; omega) (by have := R1.2.2.1; omega) k0.1 k1.1)
      have HX := hide (fun acc hl hv => addL_ok h0 h1 (acc := acc) hl hv)
      clear R0 R1 k0 k1
      go_enter Try.func25, Try.ntmps25
      go_wp2_with fail
      refine H0.out.mono ?_
      rintro e w' ⟨rfl, rfl⟩
      go_wp2_with fail
      refine H1.out.mono ?_
      rintro e w' ⟨rfl, rfl⟩
      go_wp2_with fail
      refine HC.out.mono ?_
      rintro e w1 ⟨v, acc, rfl, hown, hL, hV, _, hb⟩
      have HE := hide (HX.out acc hL hV)
      clear hV hL
      obtain ⟨A2, c2, rfl, hxl, _, _⟩ := own_reads hown
      have HP := hide (spec_Cap w1 _ _ c2 A2 acc hown)
      clear hxl hown
      go_wp2_with fail
      refine HP.out.mono ?_
      rintro e w' ⟨v2, rfl, hown2, rfl⟩
      rw [HE.out] at hown2
      go_wp2_with fail
      go_ret
      exact ⟨_, rfl, hown2, hb⟩
    · have h1' : natB xs1 = false := by simpa using h1
      have HE : Hid (addL xs0 xs1 = []) := by show _ = _; rw [addL, h1']; simp
      clear R0 R1 h1
      go_enter Try.func25, Try.ntmps25
      go_wp2_with fail
      refine H0.out.mono ?_
      rintro e w' ⟨rfl, rfl⟩
      go_wp2_with fail
      refine H1.out.mono ?_
      rintro e w' ⟨rfl, rfl⟩
      go_wp2_with fail
      go_ret
      exact ⟨_, rfl, by rw [HE.out]; exact World.ownsRow_nil _ _ _ _, Below.refl _ _⟩
  · have h0' : natB xs0 = false := by simpa using h0
    have HE : Hid (addL xs0 xs1 = []) := by show _ = _; rw [addL, h0']; simp
    clear R0 R1 h0
    go_enter Try.func25, Try.ntmps25
    go_wp2_with fail
    refine H0.out.mono ?_
    rintro e w' ⟨rfl, rfl⟩
    go_wp2_with fail
    go_ret
    exact ⟨_, rfl, by rw [HE.out]; exact World.ownsRow_nil _ _ _ _, Below.refl _ _⟩
end Go.Proofs.Ytalcknddegfkaaa
