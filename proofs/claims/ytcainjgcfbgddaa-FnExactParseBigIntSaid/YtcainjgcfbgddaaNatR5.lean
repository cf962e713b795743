/-
  The reference's natural numbers: contracts (5): l02Mul, NatMul.
-/
import Derived.Test.YtcainjgcfbgddaaNatR4
namespace Go.Proofs.Ytcainjgcfbgddaa
open Go.RowKit
set_option linter.unusedVariables false

set_option maxHeartbeats 600000 in
theorem spec_Mul (w : World) (B : Nat) (hB : B ≤ w.heap.size) (A A' : Option Addr) (n m c c' : Nat) (xs ys : List Int) (hn : xs.length = n) (hm : ys.length = m) (hx : Rd w B A (iv xs)) (hy : Rd w B A' (iv ys)) (hl : n ≤ 1000000) (hl' : m ≤ 1000000) (hlx : Limbs xs) (hly : Limbs ys) :
    Calls Try.prog 55 #[.slice A n c, .slice A' m c'] w fun e w' => ∃ v, e = .returned v ∧ w'.ownsRow w.heap.size 3 1 v (limbs (val xs * val ys).toNat).length (iv (limbs (val xs * val ys).toNat)) ∧ Below w.heap.size w w' := by
  by_cases hn0 : n = 0
  · have HE : Hid (limbs (val xs * val ys).toNat = []) := by
      have : xs = [] := List.eq_nil_of_length_eq_zero (by omega)
      subst this
      show limbs (0 * val ys).toNat = []
      rw [Int.zero_mul]; exact limbs_zero
    subst hn0
    clear hx hy hlx hly
    go_enter Try.func55, Try.ntmps55
    go_wp2_with fail
    go_ret
    exact ⟨_, rfl, by rw [HE.out]; exact World.ownsRow_nil _ _ _ _, Below.refl _ _⟩
  by_cases hm0 : m = 0
  · have HE : Hid (limbs (val xs * val ys).toNat = []) := by
      have : ys = [] := List.eq_nil_of_length_eq_zero (by omega)
      subst this
      show limbs (val xs * 0).toNat = []
      rw [Int.mul_zero]; exact limbs_zero
    subst hm0
    have hzn : ((n : Int) == 0) = false := by simp; omega
    clear hx hy hlx hly hn0
    go_enter Try.func55, Try.ntmps55
    go_wp2_with fail
    go_ret
    exact ⟨_, rfl, by rw [HE.out]; exact World.ownsRow_nil _ _ _ _, Below.refl _ _⟩
  have hzn : ((n : Int) == 0) = false := by simp; omega
  have hzm : ((m : Int) == 0) = false := by simp; omega
  have hnp : 0 < n := by omega
  have hmp : 0 < m := by omega
  clear hn0 hm0
  obtain ⟨i0, hi0, hz0, hz1, hz2⟩ := info_parts Try.infoInt
  obtain ⟨w1, hmk, hown0, hg0⟩ := run_make_full (P := Try.prog) w w.heap.size 22 3 i0 _ 1 Try.underlying22 hi0 hz0 hz1 .i64 .i64 (n + m) (by rw [hz2]; omega) (by unfold maxLen; omega) (Nat.le_refl _)
  have hb0 : Below w.heap.size w w1 := (Below.refl _ _).grown hg0 (Nat.le_refl _) (fun k h => by cases h)
  have hs0 : w.heap.size + 1 ≤ w1.heap.size := (hown0.lt w.heap.size (by simp [Value.ownBlock])).2
  have hZ : (madeCells (Value.int .i64 0).cells ((n + m) * 1)).toList = iv (List.replicate (n + m) 0) := by
    show (madeCells #[Value.int .i64 0] ((n + m) * 1)).toList = _
    rw [toList_madeCells_one, Nat.mul_one]; simp [iv]
  rw [hZ] at hown0
  rw [Int.natCast_add] at hmk
  have HP0 : Hid (Prd xs ys (List.replicate (n + m) 0) 0) := by
    refine ⟨by simp [hn, hm], fun d hd => by rw [List.eq_of_mem_replicate hd]; omega, fun p _ => by simp [List.getD, List.getElem?_replicate]; split <;> rfl, ?_⟩
    have : ∀ k : Nat, val (List.replicate k 0) = 0 := fun k => by
      induction k with
      | zero => rfl
      | succ k ih => rw [List.replicate_succ, val, ih]; rfl
    rw [this]; simp [val]
  clear hi0 hz0 hz1 hz2 hg0 hZ
  go_enter Try.func55, Try.ntmps55
  go_wp2_with fail
  go_loopw [28] (fun i wr => ∃ (k : Nat) (zs : List Int), k ≤ n ∧ i = .int .i64 k ∧ wr.ownsRow w.heap.size 3 1 (.slice (some ⟨w.heap.size, 0, none⟩) (n + m) (n + m)) (n + m) (iv zs) ∧ Below w.heap.size w wr ∧ Hid (Prd xs ys zs k)) (fun i _ => n - (intOf i).toNat)
  case atStart => exact ⟨0, _, Nat.zero_le _, rfl, hown0, hb0, HP0⟩
  case round =>
    clear hown0 hb0 HP0 hmk hs0
    obtain ⟨k, zs, hk, rfl, hown, hbl, S⟩ := hrel
    by_cases hkn : k < n
    · obtain ⟨ad, hA, hab, hc1⟩ := (hx.below (hbl.mono hB)).int (k := k) (by omega)
      obtain ⟨hx0, hx1⟩ := hlx xs[k] (List.getElem_mem _)
      have gx := getD_in (l := xs) (k := k) (by omega)
      generalize xs[k] = x at *
      have S1 := hide (S.out.part (x := x))
      have GX := hide gx
      clear S gx
      have HX := hide hx
      clear hx
      obtain ⟨W, hW⟩ : ∃ W, W = wr := ⟨_, rfl⟩
      subst hW
      subst hA
      go_wp2_with fail
      go_loopw [8, 35] (fun cq i wr => ∃ (j : Nat) (q : Int) (zs : List Int), j ≤ m ∧ i = .int .i64 j ∧ cq = .int .i64 q ∧ 0 ≤ q ∧ q ≤ 999999999 ∧ wr.ownsRow w.heap.size 3 1 (.slice (some ⟨w.heap.size, 0, none⟩) (n + m) (n + m)) (n + m) (iv zs) ∧ Below w.heap.size w wr ∧ Hid (Prt xs ys zs k j x q)) (fun _ i _ => m - (intOf i).toNat)
      case atStart => exact ⟨0, 0, zs, Nat.zero_le _, rfl, rfl, by omega, by omega, hown, hbl, S1⟩
      case round =>
        clear hown hbl S1 hc1
        obtain ⟨j, q, zs, hj, rfl, rfl, hq0, hq1, hown, hbl, S⟩ := hrel
        by_cases hjm : j < m
        · obtain ⟨ad', hA', hab', hc2⟩ := (hy.below (hbl.mono hB)).int (k := j) (by omega)
          obtain ⟨hy0, hy1⟩ := hly ys[j] (List.getElem_mem _)
          have gy := getD_in (l := ys) (k := j) (by omega)
          generalize ys[j] = y at *
          have hce := own_int (j := k + j) hown (by omega)
          have hfr := hown.frozenAt (k + j)
          have hzl : zs.length = n + m := by have := S.out.1; omega
          have ho : 0 ≤ zs.getD (k + j) 0 ∧ zs.getD (k + j) 0 ≤ 999999999 := by
            have hm := S.out.2.1 (zs.getD (k + j) 0) (by rw [getD_in (by omega)]; exact List.getElem_mem _)
            exact hm
          obtain ⟨ho0, ho1⟩ := ho
          have hxy0 : 0 ≤ x * y := Int.mul_nonneg hx0 hy0
          have hxy1 : x * y ≤ 999999998000000001 := by
            have := Int.mul_le_mul hx1 hy1 hy0 (by omega : (0 : Int) ≤ 999999999)
            omega
          have HS := hide (S.out.next (by omega) (by omega) gy rfl (N := zs.getD (k + j) 0 + x * y + q) rfl (by omega))
          obtain ⟨h1, h2⟩ := hown.stored (k + j) (.int .i64 ((zs.getD (k + j) 0 + x * y + q) % 1000000000))
          rw [iv_set] at h1
          have H1 := hide h1
          generalize zs.getD (k + j) 0 = o at *
          clear h1 h2 S gy hy hzl HX
          subst hA'
          go_wp2_with fail
          go_roundw
          case rel => exact ⟨j + 1, (o + x * y + q) / 1000000000, _, by omega, by go_num, rfl, by omega, by omega, H1.out, hbl.setCell (p := ⟨w.heap.size, k + j, none⟩) (Nat.le_refl _) _, HS⟩
          case measure => simp [intOf]; omega
        · obtain rfl : j = m := by omega
          have S2 : Prt xs ys zs k ys.length x q := by rw [hm]; exact S.out
          have HS := hide (S2.done (by omega) GX.out ⟨hq0, hq1⟩)
          rw [hm] at HS
          obtain ⟨u1, hu1⟩ := own_cell hown (show k + j < n + j by omega)
          have hfr := hown.frozenAt (k + j)
          obtain ⟨h1, h2⟩ := hown.stored (k + j) (.int .i64 q)
          rw [iv_set] at h1
          have H1 := hide h1
          clear h1 h2 S S2 hy HX
          go_wp2_with fail
          go_roundw
          case rel => exact ⟨k + 1, _, by omega, by go_num, H1.out, hbl.setCell (p := ⟨w.heap.size, k + j, none⟩) (Nat.le_refl _) _, HS⟩
          case measure => simp [intOf]; omega
    · obtain rfl : k = n := by omega
      have hzl : zs.length = k + m := by have := S.out.1; omega
      have HV : Hid (trim zs = limbs (val xs * val ys).toNat) := by
        obtain ⟨g1, g2, g3, g4⟩ := S.out
        rw [List.take_of_length_le (by omega)] at g4
        have h0 := val_nonneg g2
        exact trim_eq g2 (by omega)
      have HT := hide (spec_TrimOwn wr _ _ _ _ zs hown)
      rw [HV.out] at HT
      have HB := hide hbl
      clear hbl hown S hx hy hlx hly hzl
      go_wp2_with fail
      refine HT.out.mono ?_
      rintro e w' ⟨v2, rfl, hown2, rfl⟩
      go_wp2_with fail
      go_ret
      exact ⟨_, rfl, hown2, HB.out⟩
end Go.Proofs.Ytcainjgcfbgddaa
