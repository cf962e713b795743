/-
  The program's natural numbers: contracts (9): leading, gcdOfInts, sureCofactors, combined.
-/
import Derived.Test.YtalcknddegfkaaaDoorGcdP
namespace Go.Proofs.YtalcknddegfkaaaDoor
open Go.RowKit
set_option linter.unusedVariables false

theorem val_short {l : List Int} (h : Limbs l) {k : Nat} (hl : l.length ≤ k) : 0 ≤ val l ∧ val l < 1000000000 ^ k :=
  ⟨val_nonneg h, Int.lt_of_lt_of_le (val_lt h) (pow_le' hl)⟩
set_option maxHeartbeats 800000 in
theorem impl_leading (w : World) (B : Nat) (A : Option Addr) (n c L : Nat) (xs : List Int) (hn : xs.length = n) (hx : Rd w B A (iv xs)) (hlx : Limbs xs) (hL : 2 ≤ L) (hnL : n ≤ L) (hLm : L ≤ 1000000) :
    Calls Tryd.prog 32 #[.slice A n c, .int .i64 L] w fun e w' => e = .returned (.int .i64 (val (xs.drop (L - 2)))) ∧ w = w' := by
  go_enter Tryd.func32, Tryd.ntmps32
  go_wp2_with fail
  go_loop [5, 6] (fun v i => ∃ k : Nat, k ≤ n ∧ (L - 2 ≤ k ∨ k = n) ∧ i = .int .i64 ((k : Int) - 1) ∧ v = .int .i64 (val (xs.drop k))) (fun _ i => (intOf i + 1).toNat)
  case atStart => exact ⟨n, Nat.le_refl _, .inr rfl, rfl, by rw [List.drop_of_length_le (by omega)]; rfl⟩
  case round =>
    obtain ⟨k, hk, hkL, rfl, rfl⟩ := hrel
    by_cases hlt : L - 2 < k
    · obtain ⟨j, rfl⟩ : ∃ j, k = j + 1 := ⟨k - 1, by omega⟩
      rw [show (((j + 1 : Nat) : Int) - 1) = (j : Int) by omega]
      obtain ⟨ad, hA, hab, hc⟩ := hx.int (k := j) (by omega)
      obtain ⟨hy0, hy1⟩ := hlx xs[j] (List.getElem_mem _)
      obtain ⟨hv0, hv1⟩ := val_short (hlx.drop (j + 1)) (k := 1) (by rw [List.length_drop]; omega)
      have HV := hide (val_drop (l := xs) (j := j) (by omega))
      generalize val (xs.drop (j + 1)) = D at *
      generalize xs[j] = y at *
      clear hlx hx
      subst hA
      go_wp2_with fail
      go_round
      case rel => exact ⟨j, by omega, .inl (by omega), rfl, by rw [HV.out]; congr 1; omega⟩
      case measure => simp [intOf]
    · have HE : Hid (val (xs.drop k) = val (xs.drop (L - 2))) := by
        show _ = _
        rcases hkL with h | h
        · rw [show k = L - 2 by omega]
        · rw [List.drop_of_length_le (by omega), List.drop_of_length_le (by omega)]
      clear hx hlx
      go_wp2_with fail
      go_ret
      exact ⟨ret_int HE.out, rfl⟩
set_option maxHeartbeats 800000 in
theorem impl_gcdInts (w : World) (x y : Nat) (hx : x ≤ 9223372036854775807) (hy : y ≤ 9223372036854775807) :
    Calls Tryd.prog 31 #[.int .i64 x, .int .i64 y] w fun e w' => e = .returned (.int .i64 (Nat.gcd x y : Nat)) ∧ ∃ d, w' = w.drewN d := by
  go_enter Tryd.func31, Tryd.ntmps31
  go_wp2_with fail
  go_loopw [0, 1] (fun a b wr => ∃ p q d : Nat, a = .int .i64 p ∧ b = .int .i64 q ∧ p ≤ 9223372036854775807 ∧ q ≤ 9223372036854775807 ∧ wr = w.drewN d ∧ Hid (Nat.gcd p q = Nat.gcd x y)) (fun _ b _ => (intOf b).toNat)
  case atStart => exact ⟨x, y, 0, rfl, rfl, hx, hy, rfl, rfl⟩
  case round =>
    obtain ⟨p, q, d, rfl, rfl, hp, hq, rfl, H⟩ := hrel
    by_cases h0 : q = 0
    · subst h0
      have HG : Hid (p = Nat.gcd x y) := by have := H.out; rwa [Nat.gcd_zero_right] at this
      clear H
      go_wp2_with fail
      go_ret
      exact ⟨ret_int (by rw [HG.out]), d, rfl⟩
    · have hm : Int.tmod (p : Int) (q : Int) = ((p % q : Nat) : Int) := by rw [Int.tmod_eq_emod_of_nonneg (by omega)]; rfl
      have hl : p % q < q := Nat.mod_lt _ (by omega)
      have HG : Hid (Nat.gcd q (p % q) = Nat.gcd x y) := by
        show _ = _
        rw [← H.out, Nat.gcd_comm p q, Nat.gcd_rec q p, Nat.gcd_comm]
      have hqz : ((q : Int) == 0) = false := by simp; omega
      have hqn : ((q : Int) != 0) = true := by simp; omega
      clear H
      go_wp2_with fail
      go_quiet (fail)
      go_wp2_with fail
      go_roundw
      case rel => exact ⟨q, p % q, _, rfl, by simp, hq, by omega, World.drewN_drewN _ _ _, HG⟩
      case measure => simp [intOf]; omega
theorem alloc_blk (w : World) (E : TypeId) (zs : List Int) (hl : zs.length ≤ maxLen) : Blk (w.alloc (.cells (iv zs).toArray E)) w.heap.size E zs :=
  Blk.of_heap (by show (w.heap.push _)[w.heap.size]? = _; rw [Array.getElem?_push_size]) hl
theorem Tryd.sizeCof : (Tryd.prog.info? 61).map (·.size) = some 4 := by kernel_rfl
set_option maxRecDepth 100000 in
set_option maxHeartbeats 3200000 in
theorem impl_sure (w : World) (X Y : Int) (hX : X < 1000000000000000000) (hY : Y ≤ X) (hY0 : 0 ≤ Y) :
    Calls Tryd.prog 51 #[.int .i64 X, .int .i64 Y] w fun e w' => ∃ x y a1 b1 a2 b2 : Int, e = .returned (.agg #[.int .i64 a1, .int .i64 b1, .int .i64 a2, .int .i64 b2]) ∧ Hid (Cof X Y x y a1 b1 a2 b2) ∧ Below w.heap.size w w' := by
  obtain ⟨w1, hw1⟩ : ∃ w1, w1 = w.alloc (.cells #[.int .i64 0, .int .i64 0, .int .i64 0, .int .i64 0] 61) := ⟨_, rfl⟩
  have hb1 : Below w.heap.size w w1 := by rw [hw1]; exact (Below.refl _ _).alloc (Nat.le_refl _) _
  have hk1 : Blk w1 w.heap.size 61 [0, 0, 0, 0] := by rw [hw1]; exact alloc_blk w _ [0, 0, 0, 0] (by unfold maxLen; show 4 ≤ _; omega)
  have hz1 : w1.heap.size = w.heap.size + 1 := by rw [hw1]; show (w.heap.push _).size = _; rw [Array.size_push]
  have hb2 : Below w.heap.size w (w1.alloc (.cells #[.int .i64 1, .int .i64 0, .int .i64 0, .int .i64 1] 61)) := hb1.alloc (by omega) _
  have hk2 := alloc_blk w1 61 [1, 0, 0, 1] (by unfold maxLen; show 4 ≤ _; omega)
  have hk1' := hk1.below ((Below.refl w1.heap.size w1).alloc (Nat.le_refl _) (.cells #[.int .i64 1, .int .i64 0, .int .i64 0, .int .i64 1] 61)) (by omega)
  rw [hz1] at hk2
  have HS := hide (Cof.start X Y)
  have HK2 := hide hk2
  have HK1 := hide hk1'
  have HB2 := hide hb2
  clear hk2 hk1' hb2 hk1 hb1 hz1
  go_enter Tryd.func51, Tryd.ntmps51
  go_wp2_with fail
  rw [← hw1]
  clear hw1
  go_loopw [0, 1] (fun a b wr => ∃ x y a1 b1 a2 b2 : Int, a = .int .i64 x ∧ b = .int .i64 y ∧ Blk wr (w.heap.size + 1) 61 [a1, b1, a2, b2] ∧ Blk wr w.heap.size 61 [0, 0, 0, 0] ∧ Hid (Cof X Y x y a1 b1 a2 b2) ∧ Below w.heap.size w wr) (fun _ b _ => (intOf b).toNat)
  case atStart => exact ⟨X, Y, 1, 0, 0, 1, rfl, rfl, HK2.out, HK1.out, HS, HB2.out⟩
  case round =>
    clear HK1 HK2 HB2 HS
    obtain ⟨x, y, a1, b1, a2, b2, rfl, rfl, hk, hk0, H, hbl⟩ := hrel
    obtain ⟨c10, c11, c12, c13⟩ := H.out.c1
    obtain ⟨c20, c21, c22, c23⟩ := H.out.c2 hX hY
    have hc0 := hk.cell (j := 0) (by simp)
    have hc1 := hk.cell (j := 1) (by simp)
    have hc2 := hk.cell (j := 2) (by simp)
    have hc3 := hk.cell (j := 3) (by simp)
    simp only [List.getElem_cons_zero, List.getElem_cons_succ] at hc0 hc1 hc2 hc3
    have hfz := hk.frozen 0
    obtain ⟨n1, n2, n3, n4, n5⟩ : 0 ≤ y + a2 ∧ 0 ≤ y + b2 ∧ 0 ≤ y ∧ 0 ≤ x + a1 ∧ 0 ≤ x + b1 := by
      rcases H.out.nonneg hY0 with h | h
      · exact h
      · omega
    obtain ⟨hxX, hyX⟩ := H.out.xle hY
    have hx9 : x ≤ 1000000000000000000 := by omega
    have hy9 : y ≤ 1000000000000000000 := by omega
    have hfz1 := hk.frozen 1
    have hfz2 := hk.frozen 2
    have hfz3 := hk.frozen 3
    have hd0 := hk0.cell (j := 0) (by simp)
    have hd1 := hk0.cell (j := 1) (by simp)
    have hd2 := hk0.cell (j := 2) (by simp)
    have hd3 := hk0.cell (j := 3) (by simp)
    simp only [List.getElem_cons_zero, List.getElem_cons_succ] at hd0 hd1 hd2 hd3
    have hgz0 := hk0.frozen 0
    have hgz1 := hk0.frozen 1
    have hgz2 := hk0.frozen 2
    have hgz3 := hk0.frozen 3
    have HK := hide hk
    have HBL := hide hbl
    have HK0 := hide hk0
    have HRES := hide ((((hk0.set 0 a1).set 1 b1).set 2 a2).set 3 b2).heap
    have HBE := hide ((((hbl.setCell (p := ⟨w.heap.size, 0, none⟩) (Nat.le_refl _) (.int .i64 a1)).setCell (p := ⟨w.heap.size, 1, none⟩) (Nat.le_refl _) (.int .i64 b1)).setCell (p := ⟨w.heap.size, 2, none⟩) (Nat.le_refl _) (.int .i64 a2)).setCell (p := ⟨w.heap.size, 3, none⟩) (Nat.le_refl _) (.int .i64 b2))
    by_cases h1 : y + a2 = 0
    · have h1' : (y + a2 != 0) = false := by simp [h1]
      clear hk hk0 hbl h1
      go_wp2_with fail
      (try simp only [Exit.inBlock, Exit.then])
      refine bodyPost_ret (results_cell_row rfl _ _ w.heap.size _ #[.int .i64 a1, .int .i64 b1, .int .i64 a2, .int .i64 b2] (0, 0) _ rfl HRES.out Tryd.underlying61 rfl Tryd.sizeCof) rfl ?_
      exact ⟨x, y, a1, b1, a2, b2, rfl, H, HBE.out⟩
    · have h1' : (y + a2 != 0) = true := by simp [h1]
      have h1'' : (y + a2 == 0) = false := by simp [h1]
      by_cases h2 : y + b2 = 0
      · have h2' : (y + b2 != 0) = false := by simp [h2]
        clear hk hk0 hbl h1 h2
        go_wp2_with fail
        (try simp only [Exit.inBlock, Exit.then])
        refine bodyPost_ret (results_cell_row rfl _ _ w.heap.size _ #[.int .i64 a1, .int .i64 b1, .int .i64 a2, .int .i64 b2] (0, 0) _ rfl HRES.out Tryd.underlying61 rfl Tryd.sizeCof) rfl ?_
        exact ⟨x, y, a1, b1, a2, b2, rfl, H, HBE.out⟩
      · have h2' : (y + b2 != 0) = true := by simp [h2]
        have h2'' : (y + b2 == 0) = false := by simp [h2]
        have t1 : (x + a1).tdiv (y + a2) = (x + a1) / (y + a2) := Int.tdiv_eq_ediv_of_nonneg n4
        have t2 : (x + b1).tdiv (y + b2) = (x + b1) / (y + b2) := Int.tdiv_eq_ediv_of_nonneg n5
        by_cases hq : (x + a1) / (y + a2) = (x + b1) / (y + b2)
        · obtain ⟨q, hqe⟩ : ∃ q, q = (x + a1) / (y + a2) := ⟨_, rfl⟩
          rw [← hqe] at t1
          rw [← hq, ← hqe] at t2
          have HN := hide (H.out.next hX hY hY0 (by omega) (by omega) hqe.symm (by rw [← hq]; exact hqe.symm))
          obtain ⟨hcof, p1, p2, p3, p4, p5, p6, p7, p8⟩ := HN.out
          have hqq : (q != q) = false := by simp
          have HC := hide hcof
          have hq0 : 0 ≤ q := by rw [hqe]; exact Int.ediv_nonneg n4 (by omega)
          have hqx : q ≤ 2000000000000000000 := by
            have : (x + a1) / (y + a2) ≤ x + a1 := Int.ediv_le_self _ n4
            omega
          have hb0 : w.heap.size ≤ w.heap.size + 1 := by omega
          clear hk hk0 hbl hq hqe hcof HN H
          go_wp2_with fail
          go_roundw
          case rel =>
            refine ⟨y, x - q * y, a2, b2, a1 - q * a2, b1 - q * b2, rfl, rfl, ?_, ?_, HC, ?_⟩
            · exact (((HK.out.set 0 a2).set 1 b2).set 2 (a1 - q * a2)).set 3 (b1 - q * b2)
            · exact HK0.out.aside ((((Aside.refl (lo := w.heap.size + 1) (hi := w.heap.size + 2) wr).setCell (a := ⟨w.heap.size + 1, 0, none⟩) (Nat.le_refl _) (Nat.lt_succ_self _) (.int .i64 a2)).setCell (a := ⟨w.heap.size + 1, 1, none⟩) (Nat.le_refl _) (Nat.lt_succ_self _) (.int .i64 b2)).setCell (a := ⟨w.heap.size + 1, 2, none⟩) (Nat.le_refl _) (Nat.lt_succ_self _) (.int .i64 (a1 - q * a2)) |>.setCell (a := ⟨w.heap.size + 1, 3, none⟩) (Nat.le_refl _) (Nat.lt_succ_self _) (.int .i64 (b1 - q * b2))) (by omega)
            · exact (((HBL.out.setCell (p := ⟨w.heap.size + 1, 0, none⟩) hb0 (.int .i64 a2)).setCell (p := ⟨w.heap.size + 1, 1, none⟩) hb0 (.int .i64 b2)).setCell (p := ⟨w.heap.size + 1, 2, none⟩) hb0 (.int .i64 (a1 - q * a2))).setCell (p := ⟨w.heap.size + 1, 3, none⟩) hb0 (.int .i64 (b1 - q * b2))
          case measure => simp [intOf]; omega
        · obtain ⟨q1, hq1⟩ : ∃ q, q = (x + a1) / (y + a2) := ⟨_, rfl⟩
          obtain ⟨q2, hq2⟩ : ∃ q, q = (x + b1) / (y + b2) := ⟨_, rfl⟩
          rw [← hq1] at t1 hq
          rw [← hq2] at t2 hq
          have hqq : (q1 != q2) = true := by simp [hq]
          have hqx1 : q1 ≤ 2000000000000000000 := by
            have : (x + a1) / (y + a2) ≤ x + a1 := Int.ediv_le_self _ n4
            omega
          have hqx2 : q2 ≤ 2000000000000000000 := by
            have : (x + b1) / (y + b2) ≤ x + b1 := Int.ediv_le_self _ n5
            omega
          have hq10 : 0 ≤ q1 := by rw [hq1]; exact Int.ediv_nonneg n4 (by omega)
          have hq20 : 0 ≤ q2 := by rw [hq2]; exact Int.ediv_nonneg n5 (by omega)
          clear hk hk0 hbl hq hq1 hq2
          go_wp2_with fail
          (try simp only [Exit.inBlock, Exit.then])
          refine bodyPost_ret (results_cell_row rfl _ _ w.heap.size _ #[.int .i64 a1, .int .i64 b1, .int .i64 a2, .int .i64 b2] (0, 0) _ rfl HRES.out Tryd.underlying61 rfl Tryd.sizeCof) rfl ?_
          exact ⟨x, y, a1, b1, a2, b2, rfl, H, HBE.out⟩
end Go.Proofs.YtalcknddegfkaaaDoor
