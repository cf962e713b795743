/-
  The reference's natural numbers: contracts (5): l02Mul, NatMul.
-/
import Derived.Test.YtalcknddegfkaaaNatR4
namespace Go.Proofs.Ytalcknddegfkaaa
open Go.RowKit
set_option linter.unusedVariables false

theorem val_set : ∀ (l : List Int) (p : Nat) (d : Int), p < l.length → val (l.set p d) = val l + 1000000000 ^ p * (d - l.getD p 0)
  | [], p, d, h => absurd h (Nat.not_lt_zero _)
  | x :: r, 0, d, _ => by simp [val, List.getD]; omega
  | x :: r, p + 1, d, h => by
    have ih := val_set r p d (by simpa using h)
    rw [List.set_cons_succ, val, ih, val, List.getD_cons_succ, Int.mul_add, Int.pow_succ, Int.mul_comm (1000000000 ^ p) 1000000000, Int.mul_assoc]
    omega
theorem Limbs.set {l : List Int} (h : Limbs l) (p : Nat) {d : Int} (hd : 0 ≤ d ∧ d ≤ 999999999) : Limbs (l.set p d) := fun x hx => by
  rcases List.mem_or_eq_of_mem_set hx with h' | rfl
  · exact h x h'
  · exact hd
theorem getD_set_ne {l : List Int} {p p' : Nat} {d : Int} (h : p ≠ p') : (l.set p d).getD p' 0 = l.getD p' 0 := by
  simp [List.getD, List.getElem?_set_ne h]
/-- the product of the first k limbs of xs with ys -/
def Prd (xs ys zs : List Int) (k : Nat) : Prop := zs.length = xs.length + ys.length ∧ Limbs zs ∧ (∀ p, k + ys.length ≤ p → zs.getD p 0 = 0) ∧ val zs = val (xs.take k) * val ys
/-- .. and of limb k with the first j limbs of ys, the carry q behind it -/
def Prt (xs ys zs : List Int) (k j : Nat) (x q : Int) : Prop := zs.length = xs.length + ys.length ∧ Limbs zs ∧ (∀ p, k + ys.length ≤ p → zs.getD p 0 = 0) ∧ val zs + 1000000000 ^ (k + j) * q = val (xs.take k) * val ys + 1000000000 ^ k * (x * val (ys.take j))
theorem mul_step {P V q o x y N R : Int} (h : V + P * q = R) (hN : N = o + x * y + q) : V + P * (N % 1000000000 - o) + P * 1000000000 * (N / 1000000000) = R + P * (x * y) := by
  have e : N % 1000000000 + 1000000000 * (N / 1000000000) = N := by omega
  have e2 : P * (N % 1000000000 - o) + P * 1000000000 * (N / 1000000000) = P * (N - o) := by
    rw [Int.mul_assoc, ← Int.mul_add]; congr 1; omega
  rw [Int.add_assoc, e2, show N - o = x * y + q by omega, Int.mul_add]
  omega
theorem Prt.next {xs ys zs : List Int} {k j : Nat} {x q y o N : Int} (h : Prt xs ys zs k j x q) (hj : j < ys.length) (hk : k < xs.length) (hy : ys.getD j 0 = y) (ho : zs.getD (k + j) 0 = o) (hN : N = o + x * y + q) (h0 : 0 ≤ N) :
    Prt xs ys (zs.set (k + j) (N % 1000000000)) k (j + 1) x (N / 1000000000) := by
  obtain ⟨g1, g2, g3, g4⟩ := h
  refine ⟨by rw [List.length_set]; exact g1, g2.set _ (by omega), fun p hp => by rw [getD_set_ne (by omega)]; exact g3 p hp, ?_⟩
  have := mul_step (P := 1000000000 ^ (k + j)) g4 hN
  rw [val_set _ _ _ (by omega), ho, val_take_step, hy, ← Nat.add_assoc, Int.pow_succ, this, Int.mul_add, Int.mul_add, Int.add_assoc]
  congr 2
  rw [Int.pow_add, Int.mul_assoc]
  congr 1
  rw [← Int.mul_assoc, Int.mul_comm (1000000000 ^ j) x, Int.mul_assoc]
theorem Prt.done {xs ys zs : List Int} {k : Nat} {x q : Int} (h : Prt xs ys zs k ys.length x q) (hk : k < xs.length) (hx : xs.getD k 0 = x) (hq : 0 ≤ q ∧ q ≤ 999999999) : Prd xs ys (zs.set (k + ys.length) q) (k + 1) := by
  obtain ⟨g1, g2, g3, g4⟩ := h
  have hz := g3 (k + ys.length) (Nat.le_refl _)
  refine ⟨by rw [List.length_set]; exact g1, g2.set _ hq, fun p hp => by rw [getD_set_ne (by omega)]; exact g3 p (by omega), ?_⟩
  rw [val_set _ _ _ (by omega), hz, Int.sub_zero, g4, List.take_of_length_le (Nat.le_refl _), val_take_step, hx, Int.add_mul, Int.mul_assoc]
theorem Prd.part {xs ys zs : List Int} {k : Nat} {x : Int} (h : Prd xs ys zs k) : Prt xs ys zs k 0 x 0 := by
  obtain ⟨g1, g2, g3, g4⟩ := h
  exact ⟨g1, g2, g3, by simp [val, g4]⟩
theorem iv_set (zs : List Int) (p : Nat) (d : Int) : (iv zs).set p (.int .i64 d) = iv (zs.set p d) := by simp [iv, List.map_set]
theorem own_int {w : World} {base g n c j : Nat} {E : TypeId} {zs : List Int} (h : w.ownsRow base E 1 (.slice (some ⟨g, 0, none⟩) n c) n (iv zs)) (hj : j < n) : w.cell? ⟨g, j, none⟩ = some (.int .i64 (zs.getD j 0)) := by
  have hz : zs.length = n := by have := h.1; rw [iv_len] at this; omega
  rw [h.cellAt j (by omega)]
  simp [iv, List.getD, List.getElem?_eq_getElem (show j < zs.length by omega)]

set_option maxHeartbeats 600000 in
theorem spec_Mul (w : World) (B : Nat) (hB : B ≤ w.heap.size) (A A' : Option Addr) (n m c c' : Nat) (xs ys : List Int) (hn : xs.length = n) (hm : ys.length = m) (hx : Rd w B A (iv xs)) (hy : Rd w B A' (iv ys)) (hl : n ≤ 1000000) (hl' : m ≤ 1000000) (hlx : Limbs xs) (hly : Limbs ys) :
    Calls Try.prog 47 #[.slice A n c, .slice A' m c'] w fun e w' => ∃ v, e = .returned v ∧ w'.ownsRow w.heap.size 3 1 v (limbs (val xs * val ys).toNat).length (iv (limbs (val xs * val ys).toNat)) ∧ Below w.heap.size w w' := by
  by_cases hn0 : n = 0
  · have HE : Hid (limbs (val xs * val ys).toNat = []) := by
      have : xs = [] := List.eq_nil_of_length_eq_zero (by omega)
      subst this
      show limbs (0 * val ys).toNat = []
      rw [Int.zero_mul]; exact limbs_zero
    subst hn0
    clear hx hy hlx hly
    go_enter Try.func47, Try.ntmps47
    go_wp2_with fail
    go_ret
    exact ⟨_, rfl, by rw [HE.out]; exact World.ownsRow_nil _ _ _ _, Below.refl _ _⟩
  by_cases hm0 : m = 0
  · have HE : Hid (limbs (val xs * val ys).toNat = []) := by
      have : ys = [] := List.eq_nil_of_length_eq_zero (by omega)
      subst this
      show limbs (val xs * 0).toNat = []
      rw [Int.mul_zero]; exact limbs_zero
    subst hm0
    have hzn : ((n : Int) == 0) = false := by simp; omega
    clear hx hy hlx hly hn0
    go_enter Try.func47, Try.ntmps47
    go_wp2_with fail
    go_ret
    exact ⟨_, rfl, by rw [HE.out]; exact World.ownsRow_nil _ _ _ _, Below.refl _ _⟩
  have hzn : ((n : Int) == 0) = false := by simp; omega
  have hzm : ((m : Int) == 0) = false := by simp; omega
  have hnp : 0 < n := by omega
  have hmp : 0 < m := by omega
  clear hn0 hm0
  obtain ⟨i0, hi0, hz0, hz1, hz2⟩ := info_parts Try.infoInt
  obtain ⟨w1, hmk, hown0, hg0⟩ := run_make_full (P := Try.prog) w w.heap.size 22 3 i0 _ 1 Try.underlying22 hi0 hz0 hz1 .i64 .i64 (n + m) (by rw [hz2]; omega) (by unfold maxLen; omega) (Nat.le_refl _)
  have hb0 : Below w.heap.size w w1 := (Below.refl _ _).grown hg0 (Nat.le_refl _) (fun k h => by cases h)
  have hs0 : w.heap.size + 1 ≤ w1.heap.size := (hown0.lt w.heap.size (by simp [Value.ownBlock])).2
  have hZ : (madeCells (Value.int .i64 0).cells ((n + m) * 1)).toList = iv (List.replicate (n + m) 0) := by
    show (madeCells #[Value.int .i64 0] ((n + m) * 1)).toList = _
    rw [toList_madeCells_one, Nat.mul_one]; simp [iv]
  rw [hZ] at hown0
  rw [Int.natCast_add] at hmk
  have HP0 : Hid (Prd xs ys (List.replicate (n + m) 0) 0) := by
    refine ⟨by simp [hn, hm], fun d hd => by rw [List.eq_of_mem_replicate hd]; omega, fun p _ => by simp [List.getD, List.getElem?_replicate]; split <;> rfl, ?_⟩
    have : ∀ k : Nat, val (List.replicate k 0) = 0 := fun k => by
      induction k with
      | zero => rfl
      | succ k ih => rw [List.replicate_succ, val, ih]; rfl
    rw [this]; simp [val]
  clear hi0 hz0 hz1 hz2 hg0 hZ
  go_enter Try.func47, Try.ntmps47
  go_wp2_with fail
  go_loopw [28] (fun i wr => ∃ (k : Nat) (zs : List Int), k ≤ n ∧ i = .int .i64 k ∧ wr.ownsRow w.heap.size 3 1 (.slice (some ⟨w.heap.size, 0, none⟩) (n + m) (n + m)) (n + m) (iv zs) ∧ Below w.heap.size w wr ∧ Hid (Prd xs ys zs k)) (fun i _ => n - (intOf i).toNat)
  case atStart => exact ⟨0, _, Nat.zero_le _, rfl, hown0, hb0, HP0⟩
  case round =>
    clear hown0 hb0 HP0 hmk hs0
    obtain ⟨k, zs, hk, rfl, hown, hbl, S⟩ := hrel
    by_cases hkn : k < n
    · obtain ⟨ad, hA, hab, hc1⟩ := (hx.below (hbl.mono hB)).int (k := k) (by omega)
      obtain ⟨hx0, hx1⟩ := hlx xs[k] (List.getElem_mem _)
      have gx := getD_in (l := xs) (k := k) (by omega)
      generalize xs[k] = x at *
      have S1 := hide (S.out.part (x := x))
      have GX := hide gx
      clear S gx
      have HX := hide hx
      clear hx
      obtain ⟨W, hW⟩ : ∃ W, W = wr := ⟨_, rfl⟩
      subst hW
      subst hA
      go_wp2_with fail
      go_loopw [8, 35] (fun cq i wr => ∃ (j : Nat) (q : Int) (zs : List Int), j ≤ m ∧ i = .int .i64 j ∧ cq = .int .i64 q ∧ 0 ≤ q ∧ q ≤ 999999999 ∧ wr.ownsRow w.heap.size 3 1 (.slice (some ⟨w.heap.size, 0, none⟩) (n + m) (n + m)) (n + m) (iv zs) ∧ Below w.heap.size w wr ∧ Hid (Prt xs ys zs k j x q)) (fun _ i _ => m - (intOf i).toNat)
      case atStart => exact ⟨0, 0, zs, Nat.zero_le _, rfl, rfl, by omega, by omega, hown, hbl, S1⟩
      case round =>
        clear hown hbl S1 hc1
        obtain ⟨j, q, zs, hj, rfl, rfl, hq0, hq1, hown, hbl, S⟩ := hrel
        by_cases hjm : j < m
        · obtain ⟨ad', hA', hab', hc2⟩ := (hy.below (hbl.mono hB)).int (k := j) (by omega)
          obtain ⟨hy0, hy1⟩ := hly ys[j] (List.getElem_mem _)
          have gy := getD_in (l := ys) (k := j) (by omega)
          generalize ys[j] = y at *
          have hce := own_int (j := k + j) hown (by omega)
          have hfr := hown.frozenAt (k + j)
          have hzl : zs.length = n + m := by have := S.out.1; omega
          have ho : 0 ≤ zs.getD (k + j) 0 ∧ zs.getD (k + j) 0 ≤ 999999999 := by
            have hm := S.out.2.1 (zs.getD (k + j) 0) (by rw [getD_in (by omega)]; exact List.getElem_mem _)
            exact hm
          obtain ⟨ho0, ho1⟩ := ho
          have hxy0 : 0 ≤ x * y := Int.mul_nonneg hx0 hy0
          have hxy1 : x * y ≤ 999999998000000001 := by
            have := Int.mul_le_mul hx1 hy1 hy0 (by omega : (0 : Int) ≤ 999999999)
            omega
          have HS := hide (S.out.next (by omega) (by omega) gy rfl (N := zs.getD (k + j) 0 + x * y + q) rfl (by omega))
          obtain ⟨h1, h2⟩ := hown.stored (k + j) (.int .i64 ((zs.getD (k + j) 0 + x * y + q) % 1000000000))
          rw [iv_set] at h1
          have H1 := hide h1
          generalize zs.getD (k + j) 0 = o at *
          clear h1 h2 S gy hy hzl HX
          subst hA'
          go_wp2_with fail
          go_roundw
          case rel => exact ⟨j + 1, (o + x * y + q) / 1000000000, _, by omega, by go_num, rfl, by omega, by omega, H1.out, hbl.setCell (p := ⟨w.heap.size, k + j, none⟩) (Nat.le_refl _) _, HS⟩
          case measure => simp [intOf]; omega
        · obtain rfl : j = m := by omega
          have S2 : Prt xs ys zs k ys.length x q := by rw [hm]; exact S.out
          have HS := hide (S2.done (by omega) GX.out ⟨hq0, hq1⟩)
          rw [hm] at HS
          obtain ⟨u1, hu1⟩ := own_cell hown (show k + j < n + j by omega)
          have hfr := hown.frozenAt (k + j)
          obtain ⟨h1, h2⟩ := hown.stored (k + j) (.int .i64 q)
          rw [iv_set] at h1
          have H1 := hide h1
          clear h1 h2 S S2 hy HX
          go_wp2_with fail
          go_roundw
          case rel => exact ⟨k + 1, _, by omega, by go_num, H1.out, hbl.setCell (p := ⟨w.heap.size, k + j, none⟩) (Nat.le_refl _) _, HS⟩
          case measure => simp [intOf]; omega
    · obtain rfl : k = n := by omega
      have hzl : zs.length = k + m := by have := S.out.1; omega
      have HV : Hid (trim zs = limbs (val xs * val ys).toNat) := by
        obtain ⟨g1, g2, g3, g4⟩ := S.out
        rw [List.take_of_length_le (by omega)] at g4
        have h0 := val_nonneg g2
        exact trim_eq g2 (by omega)
      have HT := hide (spec_TrimOwn wr _ _ _ _ zs hown)
      rw [HV.out] at HT
      have HB := hide hbl
      clear hbl hown S hx hy hlx hly hzl
      go_wp2_with fail
      refine HT.out.mono ?_
      rintro e w' ⟨v2, rfl, hown2, rfl⟩
      go_wp2_with fail
      go_ret
      exact ⟨_, rfl, hown2, HB.out⟩

theorem mulL_ok {a b : List Int} (ha : natB a = true) (hb : natB b = true) : capT (limbs (val a * val b).toNat) = mulL a b := by
  rw [mulL, ha, hb, capT_capL (limbs_ok _) (val_limbs _)]
  have h1 := natV_val ha
  have h2 := natV_val hb
  have e : (val a * val b).toNat = natV a * natV b := by rw [← h1, ← h2, ← Int.natCast_mul]; rfl
  rw [e]; simp

set_option maxHeartbeats 800000 in
theorem spec_NatMul (w : World) (B : Nat) (hB : B ≤ w.heap.size) (A0 : Option Addr) (n0 c0 : Nat) (xs0 : List Int) (R0 : RdI w B A0 n0 xs0) (A1 : Option Addr) (n1 c1 : Nat) (xs1 : List Int) (R1 : RdI w B A1 n1 xs1) :
    Calls Try.prog 29 #[.slice A0 n0 c0, .slice A1 n1 c1] w fun e w' => ∃ v, e = .returned v ∧ w'.ownsRow w.heap.size 3 1 v (mulL xs0 xs1).length (iv (mulL xs0 xs1)) ∧ Below w.heap.size w w' := by
  have H0 := hide (spec_NatOk w B hB A0 n0 c0 xs0 R0)
  have H1 := hide (spec_NatOk w B hB A1 n1 c1 xs1 R1)
  by_cases h0 : natB xs0 = true
  · by_cases h1 : natB xs1 = true
    · have hl0 : n0 ≤ 60 := by have := ((natB_iff xs0).1 h0).2; have := R0.1; omega
      have hl1 : n1 ≤ 60 := by have := ((natB_iff xs1).1 h1).2; have := R1.1; omega
      obtain ⟨k0, l0⟩ := (natB_iff xs0).1 h0
      obtain ⟨k1, l1⟩ := (natB_iff xs1).1 h1
      have HC := hide (spec_Mul w B hB A0 A1 n0 n1 c0 c1 xs0 xs1 R0.1 R1.1 R0.2.1 R1.2.1 (by omega) (by omega) k0.1 k1.1)
      have HX := hide (mulL_ok h0 h1)
      clear R0 R1 k0 k1
      go_enter Try.func29, Try.ntmps29
      go_wp2_with fail
      refine H0.out.mono ?_
      rintro e w' ⟨rfl, rfl⟩
      go_wp2_with fail
      refine H1.out.mono ?_
      rintro e w' ⟨rfl, rfl⟩
      go_wp2_with fail
      refine HC.out.mono ?_
      rintro e w1 ⟨v, rfl, hown, hb⟩
      have HE := HX
      obtain ⟨A2, c2, rfl, hxl, _, _⟩ := own_reads hown
      have HP := hide (spec_Cap w1 _ _ c2 A2 _ hown)
      clear hxl hown
      go_wp2_with fail
      refine HP.out.mono ?_
      rintro e w' ⟨v2, rfl, hown2, rfl⟩
      rw [HE.out] at hown2
      go_wp2_with fail
      go_ret
      exact ⟨_, rfl, hown2, hb⟩
    · have h1' : natB xs1 = false := by simpa using h1
      have HE : Hid (mulL xs0 xs1 = []) := by show _ = _; rw [mulL, h1']; simp
      clear R0 R1 h1
      go_enter Try.func29, Try.ntmps29
      go_wp2_with fail
      refine H0.out.mono ?_
      rintro e w' ⟨rfl, rfl⟩
      go_wp2_with fail
      refine H1.out.mono ?_
      rintro e w' ⟨rfl, rfl⟩
      go_wp2_with fail
      go_ret
      exact ⟨_, rfl, by rw [HE.out]; exact World.ownsRow_nil _ _ _ _, Below.refl _ _⟩
  · have h0' : natB xs0 = false := by simpa using h0
    have HE : Hid (mulL xs0 xs1 = []) := by show _ = _; rw [mulL, h0']; simp
    clear R0 R1 h0
    go_enter Try.func29, Try.ntmps29
    go_wp2_with fail
    refine H0.out.mono ?_
    rintro e w' ⟨rfl, rfl⟩
    go_wp2_with fail
    go_ret
    exact ⟨_, rfl, by rw [HE.out]; exact World.ownsRow_nil _ _ _ _, Below.refl _ _⟩
end Go.Proofs.Ytalcknddegfkaaa
