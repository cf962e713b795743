/-
  The texts NatI9, NatI10, NatI11, put together; each has its own heading below. No condition of ours.
-/
import Derived.Test.YtdcceppednngjabIB
import Derived.Test.YtdcceppednngjabPB
import Derived.Sort.AtCall
/-
  The program's natural numbers: contracts (9): leading, gcdOfInts, sureCofactors, combined.
-/


namespace Go.Proofs.Ytdcceppednngjab
open Go.RowKit
set_option linter.unusedVariables false

theorem val_short {l : List Int} (h : Limbs l) {k : Nat} (hl : l.length ≤ k) : 0 ≤ val l ∧ val l < 1000000000 ^ k :=
  ⟨val_nonneg h, Int.lt_of_lt_of_le (val_lt h) (pow_le' hl)⟩
set_option maxHeartbeats 800000 in
theorem impl_leading (w : World) (B : Nat) (A : Option Addr) (n c L : Nat) (xs : List Int) (hn : xs.length = n) (hx : Rd w B A (iv xs)) (hlx : Limbs xs) (hL : 2 ≤ L) (hnL : n ≤ L) (hLm : L ≤ 1000000) :
    Calls Try.prog 53 #[.slice A n c, .int .i64 L] w fun e w' => e = .returned (.int .i64 (val (xs.drop (L - 2)))) ∧ w = w' := by
  go_enter Try.func53, Try.ntmps53
  go_wp2_with fail
  go_loop [5, 6] (fun v i => ∃ k : Nat, k ≤ n ∧ (L - 2 ≤ k ∨ k = n) ∧ i = .int .i64 ((k : Int) - 1) ∧ v = .int .i64 (val (xs.drop k))) (fun _ i => (intOf i + 1).toNat)
  case atStart => exact ⟨n, Nat.le_refl _, .inr rfl, rfl, by rw [List.drop_of_length_le (by omega)]; rfl⟩
  case round =>
    obtain ⟨k, hk, hkL, rfl, rfl⟩ := hrel
    by_cases hlt : L - 2 < k
    · obtain ⟨j, rfl⟩ : ∃ j, k = j + 1 := ⟨k - 1, by omega⟩
      rw [show (((j + 1 : Nat) : Int) - 1) = (j : Int) by omega]
      obtain ⟨ad, hA, hab, hc⟩ := hx.int (k := j) (by omega)
      obtain ⟨hy0, hy1⟩ := hlx xs[j] (List.getElem_mem _)
      obtain ⟨hv0, hv1⟩ := val_short (hlx.drop (j + 1)) (k := 1) (by rw [List.length_drop]; omega)
      have HV := hide (val_drop (l := xs) (j := j) (by omega))
      generalize val (xs.drop (j + 1)) = D at *
      generalize xs[j] = y at *
      clear hlx hx
      subst hA
      go_wp2_with fail
      go_round
      case rel => exact ⟨j, by omega, .inl (by omega), rfl, by rw [HV.out]; congr 1; omega⟩
      case measure => simp [intOf]
    · have HE : Hid (val (xs.drop k) = val (xs.drop (L - 2))) := by
        show _ = _
        rcases hkL with h | h
        · rw [show k = L - 2 by omega]
        · rw [List.drop_of_length_le (by omega), List.drop_of_length_le (by omega)]
      clear hx hlx
      go_wp2_with fail
      go_ret
      exact ⟨ret_int HE.out, rfl⟩
set_option maxHeartbeats 800000 in
theorem impl_gcdInts (w : World) (x y : Nat) (hx : x ≤ 9223372036854775807) (hy : y ≤ 9223372036854775807) :
    Calls Try.prog 52 #[.int .i64 x, .int .i64 y] w fun e w' => e = .returned (.int .i64 (Nat.gcd x y : Nat)) ∧ ∃ d, w' = w.drewN d := by
  go_enter Try.func52, Try.ntmps52
  go_wp2_with fail
  go_loopw [0, 1] (fun a b wr => ∃ p q d : Nat, a = .int .i64 p ∧ b = .int .i64 q ∧ p ≤ 9223372036854775807 ∧ q ≤ 9223372036854775807 ∧ wr = w.drewN d ∧ Hid (Nat.gcd p q = Nat.gcd x y)) (fun _ b _ => (intOf b).toNat)
  case atStart => exact ⟨x, y, 0, rfl, rfl, hx, hy, rfl, rfl⟩
  case round =>
    obtain ⟨p, q, d, rfl, rfl, hp, hq, rfl, H⟩ := hrel
    by_cases h0 : q = 0
    · subst h0
      have HG : Hid (p = Nat.gcd x y) := by have := H.out; rwa [Nat.gcd_zero_right] at this
      clear H
      go_wp2_with fail
      go_ret
      exact ⟨ret_int (by rw [HG.out]), d, rfl⟩
    · have hm : Int.tmod (p : Int) (q : Int) = ((p % q : Nat) : Int) := by rw [Int.tmod_eq_emod_of_nonneg (by omega)]; rfl
      have hl : p % q < q := Nat.mod_lt _ (by omega)
      have HG : Hid (Nat.gcd q (p % q) = Nat.gcd x y) := by
        show _ = _
        rw [← H.out, Nat.gcd_comm p q, Nat.gcd_rec q p, Nat.gcd_comm]
      have hqz : ((q : Int) == 0) = false := by simp; omega
      have hqn : ((q : Int) != 0) = true := by simp; omega
      clear H
      go_wp2_with fail
      go_quiet (fail)
      go_wp2_with fail
      go_roundw
      case rel => exact ⟨q, p % q, _, rfl, by simp, hq, by omega, World.drewN_drewN _ _ _, HG⟩
      case measure => simp [intOf]; omega
theorem alloc_blk (w : World) (E : TypeId) (zs : List Int) (hl : zs.length ≤ maxLen) : Blk (w.alloc (.cells (iv zs).toArray E)) w.heap.size E zs :=
  Blk.of_heap (by show (w.heap.push _)[w.heap.size]? = _; rw [Array.getElem?_push_size]) hl
theorem Try.sizeCof : (Try.prog.info? 92).map (·.size) = some 4 := by kernel_rfl
set_option maxRecDepth 100000 in
set_option maxHeartbeats 3200000 in
theorem impl_sure (w : World) (X Y : Int) (hX : X < 1000000000000000000) (hY : Y ≤ X) (hY0 : 0 ≤ Y) :
    Calls Try.prog 68 #[.int .i64 X, .int .i64 Y] w fun e w' => ∃ x y a1 b1 a2 b2 : Int, e = .returned (.agg #[.int .i64 a1, .int .i64 b1, .int .i64 a2, .int .i64 b2]) ∧ Hid (Cof X Y x y a1 b1 a2 b2) ∧ Below w.heap.size w w' := by
  obtain ⟨w1, hw1⟩ : ∃ w1, w1 = w.alloc (.cells #[.int .i64 0, .int .i64 0, .int .i64 0, .int .i64 0] 92) := ⟨_, rfl⟩
  have hb1 : Below w.heap.size w w1 := by rw [hw1]; exact (Below.refl _ _).alloc (Nat.le_refl _) _
  have hk1 : Blk w1 w.heap.size 92 [0, 0, 0, 0] := by rw [hw1]; exact alloc_blk w _ [0, 0, 0, 0] (by unfold maxLen; show 4 ≤ _; omega)
  have hz1 : w1.heap.size = w.heap.size + 1 := by rw [hw1]; show (w.heap.push _).size = _; rw [Array.size_push]
  have hb2 : Below w.heap.size w (w1.alloc (.cells #[.int .i64 1, .int .i64 0, .int .i64 0, .int .i64 1] 92)) := hb1.alloc (by omega) _
  have hk2 := alloc_blk w1 92 [1, 0, 0, 1] (by unfold maxLen; show 4 ≤ _; omega)
  have hk1' := hk1.below ((Below.refl w1.heap.size w1).alloc (Nat.le_refl _) (.cells #[.int .i64 1, .int .i64 0, .int .i64 0, .int .i64 1] 92)) (by omega)
  rw [hz1] at hk2
  have HS := hide (Cof.start X Y)
  have HK2 := hide hk2
  have HK1 := hide hk1'
  have HB2 := hide hb2
  clear hk2 hk1' hb2 hk1 hb1 hz1
  go_enter Try.func68, Try.ntmps68
  go_wp2_with fail
  rw [← hw1]
  clear hw1
  go_loopw [0, 1] (fun a b wr => ∃ x y a1 b1 a2 b2 : Int, a = .int .i64 x ∧ b = .int .i64 y ∧ Blk wr (w.heap.size + 1) 92 [a1, b1, a2, b2] ∧ Blk wr w.heap.size 92 [0, 0, 0, 0] ∧ Hid (Cof X Y x y a1 b1 a2 b2) ∧ Below w.heap.size w wr) (fun _ b _ => (intOf b).toNat)
  case atStart => exact ⟨X, Y, 1, 0, 0, 1, rfl, rfl, HK2.out, HK1.out, HS, HB2.out⟩
  case round =>
    clear HK1 HK2 HB2 HS
    obtain ⟨x, y, a1, b1, a2, b2, rfl, rfl, hk, hk0, H, hbl⟩ := hrel
    obtain ⟨c10, c11, c12, c13⟩ := H.out.c1
    obtain ⟨c20, c21, c22, c23⟩ := H.out.c2 hX hY
    have hc0 := hk.cell (j := 0) (by simp)
    have hc1 := hk.cell (j := 1) (by simp)
    have hc2 := hk.cell (j := 2) (by simp)
    have hc3 := hk.cell (j := 3) (by simp)
    simp only [List.getElem_cons_zero, List.getElem_cons_succ] at hc0 hc1 hc2 hc3
    have hfz := hk.frozen 0
    obtain ⟨n1, n2, n3, n4, n5⟩ : 0 ≤ y + a2 ∧ 0 ≤ y + b2 ∧ 0 ≤ y ∧ 0 ≤ x + a1 ∧ 0 ≤ x + b1 := by
      rcases H.out.nonneg hY0 with h | h
      · exact h
      · omega
    obtain ⟨hxX, hyX⟩ := H.out.xle hY
    have hx9 : x ≤ 1000000000000000000 := by omega
    have hy9 : y ≤ 1000000000000000000 := by omega
    have hfz1 := hk.frozen 1
    have hfz2 := hk.frozen 2
    have hfz3 := hk.frozen 3
    have hd0 := hk0.cell (j := 0) (by simp)
    have hd1 := hk0.cell (j := 1) (by simp)
    have hd2 := hk0.cell (j := 2) (by simp)
    have hd3 := hk0.cell (j := 3) (by simp)
    simp only [List.getElem_cons_zero, List.getElem_cons_succ] at hd0 hd1 hd2 hd3
    have hgz0 := hk0.frozen 0
    have hgz1 := hk0.frozen 1
    have hgz2 := hk0.frozen 2
    have hgz3 := hk0.frozen 3
    have HK := hide hk
    have HBL := hide hbl
    have HK0 := hide hk0
    have HRES := hide ((((hk0.set 0 a1).set 1 b1).set 2 a2).set 3 b2).heap
    have HBE := hide ((((hbl.setCell (p := ⟨w.heap.size, 0, none⟩) (Nat.le_refl _) (.int .i64 a1)).setCell (p := ⟨w.heap.size, 1, none⟩) (Nat.le_refl _) (.int .i64 b1)).setCell (p := ⟨w.heap.size, 2, none⟩) (Nat.le_refl _) (.int .i64 a2)).setCell (p := ⟨w.heap.size, 3, none⟩) (Nat.le_refl _) (.int .i64 b2))
    by_cases h1 : y + a2 = 0
    · have h1' : (y + a2 != 0) = false := by simp [h1]
      clear hk hk0 hbl h1
      go_wp2_with fail
      (try simp only [Exit.inBlock, Exit.then])
      refine bodyPost_ret (results_cell_row rfl _ _ w.heap.size _ #[.int .i64 a1, .int .i64 b1, .int .i64 a2, .int .i64 b2] (0, 0) _ rfl HRES.out Try.underlying92 rfl Try.sizeCof) rfl ?_
      exact ⟨x, y, a1, b1, a2, b2, rfl, H, HBE.out⟩
    · have h1' : (y + a2 != 0) = true := by simp [h1]
      have h1'' : (y + a2 == 0) = false := by simp [h1]
      by_cases h2 : y + b2 = 0
      · have h2' : (y + b2 != 0) = false := by simp [h2]
        clear hk hk0 hbl h1 h2
        go_wp2_with fail
        (try simp only [Exit.inBlock, Exit.then])
        refine bodyPost_ret (results_cell_row rfl _ _ w.heap.size _ #[.int .i64 a1, .int .i64 b1, .int .i64 a2, .int .i64 b2] (0, 0) _ rfl HRES.out Try.underlying92 rfl Try.sizeCof) rfl ?_
        exact ⟨x, y, a1, b1, a2, b2, rfl, H, HBE.out⟩
      · have h2' : (y + b2 != 0) = true := by simp [h2]
        have h2'' : (y + b2 == 0) = false := by simp [h2]
        have t1 : (x + a1).tdiv (y + a2) = (x + a1) / (y + a2) := Int.tdiv_eq_ediv_of_nonneg n4
        have t2 : (x + b1).tdiv (y + b2) = (x + b1) / (y + b2) := Int.tdiv_eq_ediv_of_nonneg n5
        by_cases hq : (x + a1) / (y + a2) = (x + b1) / (y + b2)
        · obtain ⟨q, hqe⟩ : ∃ q, q = (x + a1) / (y + a2) := ⟨_, rfl⟩
          rw [← hqe] at t1
          rw [← hq, ← hqe] at t2
          have HN := hide (H.out.next hX hY hY0 (by omega) (by omega) hqe.symm (by rw [← hq]; exact hqe.symm))
          obtain ⟨hcof, p1, p2, p3, p4, p5, p6, p7, p8⟩ := HN.out
          have hqq : (q != q) = false := by simp
          have HC := hide hcof
          have hq0 : 0 ≤ q := by rw [hqe]; exact Int.ediv_nonneg n4 (by omega)
          have hqx : q ≤ 2000000000000000000 := by
            have : (x + a1) / (y + a2) ≤ x + a1 := Int.ediv_le_self _ n4
            omega
          have hb0 : w.heap.size ≤ w.heap.size + 1 := by omega
          clear hk hk0 hbl hq hqe hcof HN H
          go_wp2_with fail
          go_roundw
          case rel =>
            refine ⟨y, x - q * y, a2, b2, a1 - q * a2, b1 - q * b2, rfl, rfl, ?_, ?_, HC, ?_⟩
            · exact (((HK.out.set 0 a2).set 1 b2).set 2 (a1 - q * a2)).set 3 (b1 - q * b2)
            · exact HK0.out.aside ((((Aside.refl (lo := w.heap.size + 1) (hi := w.heap.size + 2) wr).setCell (a := ⟨w.heap.size + 1, 0, none⟩) (Nat.le_refl _) (Nat.lt_succ_self _) (.int .i64 a2)).setCell (a := ⟨w.heap.size + 1, 1, none⟩) (Nat.le_refl _) (Nat.lt_succ_self _) (.int .i64 b2)).setCell (a := ⟨w.heap.size + 1, 2, none⟩) (Nat.le_refl _) (Nat.lt_succ_self _) (.int .i64 (a1 - q * a2)) |>.setCell (a := ⟨w.heap.size + 1, 3, none⟩) (Nat.le_refl _) (Nat.lt_succ_self _) (.int .i64 (b1 - q * b2))) (by omega)
            · exact (((HBL.out.setCell (p := ⟨w.heap.size + 1, 0, none⟩) hb0 (.int .i64 a2)).setCell (p := ⟨w.heap.size + 1, 1, none⟩) hb0 (.int .i64 b2)).setCell (p := ⟨w.heap.size + 1, 2, none⟩) hb0 (.int .i64 (a1 - q * a2))).setCell (p := ⟨w.heap.size + 1, 3, none⟩) hb0 (.int .i64 (b1 - q * b2))
          case measure => simp [intOf]; omega
        · obtain ⟨q1, hq1⟩ : ∃ q, q = (x + a1) / (y + a2) := ⟨_, rfl⟩
          obtain ⟨q2, hq2⟩ : ∃ q, q = (x + b1) / (y + b2) := ⟨_, rfl⟩
          rw [← hq1] at t1 hq
          rw [← hq2] at t2 hq
          have hqq : (q1 != q2) = true := by simp [hq]
          have hqx1 : q1 ≤ 2000000000000000000 := by
            have : (x + a1) / (y + a2) ≤ x + a1 := Int.ediv_le_self _ n4
            omega
          have hqx2 : q2 ≤ 2000000000000000000 := by
            have : (x + b1) / (y + b2) ≤ x + b1 := Int.ediv_le_self _ n5
            omega
          have hq10 : 0 ≤ q1 := by rw [hq1]; exact Int.ediv_nonneg n4 (by omega)
          have hq20 : 0 ≤ q2 := by rw [hq2]; exact Int.ediv_nonneg n5 (by omega)
          clear hk hk0 hbl hq hq1 hq2
          go_wp2_with fail
          (try simp only [Exit.inBlock, Exit.then])
          refine bodyPost_ret (results_cell_row rfl _ _ w.heap.size _ #[.int .i64 a1, .int .i64 b1, .int .i64 a2, .int .i64 b2] (0, 0) _ rfl HRES.out Try.underlying92 rfl Try.sizeCof) rfl ?_
          exact ⟨x, y, a1, b1, a2, b2, rfl, H, HBE.out⟩
end Go.Proofs.Ytdcceppednngjab

/-
  The program's natural numbers: contracts (10): combined, remaindersAfter.
-/


namespace Go.Proofs.Ytdcceppednngjab
open Go.RowKit
set_option linter.unusedVariables false

set_option maxHeartbeats 1600000 in
theorem impl_combined (w : World) (B : Nat) (hB : B ≤ w.heap.size) (A A' : Option Addr) (n m c c' : Nat) (xs ys : List Int) (fa fb : Int) (hn : xs.length = n) (hm : ys.length = m) (hx : Rd w B A (iv xs)) (hy : Rd w B A' (iv ys)) (hlx : Limbs xs) (hly : Limbs ys) (hmn : m ≤ n) (hl : n ≤ 10000) (hfa : -1000000000 ≤ fa ∧ fa ≤ 1000000000) (hfb : -1000000000 ≤ fb ∧ fb ≤ 1000000000) (R : Nat) (hR : (R : Int) = fa * val xs + fb * val ys) (hRB : (R : Int) < 1000000000 ^ (n + 1)) :
    Calls Try.prog 69 #[.slice A n c, .slice A' m c', .int .i64 fa, .int .i64 fb] w fun e w' => ∃ v, e = .returned v ∧ Own w' w.heap.size w'.heap.size 3 v (limbs R).length (iv (limbs R)) ∧ Below w.heap.size w w' := by
  have HS := hide (impl_scaled w B hB A n c xs fa hn hx (by omega) hlx hfa)
  have hv0 := val_nonneg hlx
  have hv1 := val_lt hlx
  rw [hn] at hv1
  have hfv : -(1000000000 ^ n * 1000000000) ≤ fa * val xs ∧ fa * val xs < 1000000000 ^ n * 1000000001 := by
    have h1 : -1000000000 * val xs ≤ fa * val xs := Int.mul_le_mul_of_nonneg_right hfa.1 hv0
    have h2 : fa * val xs ≤ 1000000000 * val xs := Int.mul_le_mul_of_nonneg_right hfa.2 hv0
    have hp := pow_pos' n
    omega
  have HADD := hide (fun (w1 : World) (g : Nat) (out : List Int) (hg : w.heap.size ≤ g) (hb : Below w.heap.size w w1) (hblk : Blk w1 g 3 out) (hol : out.length = n + 1) (hlo : Limbs (out.take n)) (hov : val out = fa * val xs) =>
    impl_addWhole w1 g (n + 1) (n + 1) B m c' A' out ys fb hblk hol hm (by omega) (by omega) (by simpa using hlo) (fun d hd => by
      obtain ⟨_, s1, s2⟩ := win_sign hol hlo
      rw [List.getLast?_eq_getElem?, hol, Nat.add_sub_cancel, List.getElem?_eq_getElem (by omega)] at hd
      injection hd with hd
      have t1 := s1 1000000000 (by omega)
      have t2 := s2 1000000001 (by omega)
      omega) hly hfb (hy.below (hb.mono hB)) (by have := hb.size; omega) (hy.sep (by omega)))
  have HT : Hid (∀ out : List Int, out.length = n + 1 → Limbs (out.take (n + 1 - 1)) → val out = fa * val xs + fb * val ys → trim out = limbs R) := fun out h1 h2 h3 => by
    rw [← hR] at h3
    exact trim_eq (limbs_of_val h1 (by omega) h2 (by omega) (by omega)) h3
  clear hx hy hlx hly hR hRB hv0 hv1 hfv hn hm
  go_enter Try.func69, Try.ntmps69
  go_wp2_with fail
  refine HS.out.mono ?_
  rintro e w1 ⟨g, out, rfl, hg, hblk, hol, hlo, hov, hb⟩
  have HA := hide (HADD.out w1 g out hg hb hblk hol hlo hov)
  have HOV := hide hov
  have HB := hide hb
  have hs1 := hb.size
  have hgl := hblk.lt
  clear hblk hol hlo hov hb HADD HS
  go_wp2_with fail
  refine HA.out.mono ?_
  rintro e w2 ⟨v, o2, rfl, hblk2, hol2, hlo2, hov2, ha2⟩
  have hT := HT.out o2 hol2 hlo2 (by rw [hov2, HOV.out])
  have HZ := hide (impl_cutZeros w2 g (g + 1) (some ⟨g, 0, none⟩) (n + 1) (n + 1) o2 (by have := hblk2.own (n + 1) (n + 1) (by omega); rwa [List.take_of_length_le (by omega)] at this) (Nat.le_refl _) (by unfold maxLen; omega))
  rw [hT] at HZ
  have hgl2 := hblk2.lt
  have HB2 := hide (HB.out.trans (ha2.below hg (by omega)))
  clear hT hblk2 hol2 hlo2 hov2 ha2 HA HT HOV
  go_wp2_with fail
  refine HZ.out.mono ?_
  rintro e w' ⟨v3, rfl, o, _, rfl⟩
  have HO := hide (o.wider (lo' := w.heap.size) (hi' := w2.heap.size) hg hgl2)
  clear o HZ
  go_wp2_with fail
  go_ret
  exact ⟨_, rfl, HO.out, HB2.out⟩

/-- the slice value v can be read as the number Y -/
def RdN (w : World) (v : Value) (Y : Nat) : Prop := ∃ A c, v = .slice A (limbs Y).length c ∧ Rd w w.heap.size A (iv (limbs Y))
theorem RdN.below {w w' : World} {v : Value} {Y : Nat} (h : RdN w v Y) (hb : Below w.heap.size w w') : RdN w' v Y := by
  obtain ⟨A, c, rfl, hr⟩ := h
  exact ⟨A, c, rfl, (hr.below hb).wider hb.size⟩
theorem Own.rdN {w : World} {lo hi : Nat} {E : TypeId} {v : Value} {Y : Nat} (o : Own w lo hi E v (limbs Y).length (iv (limbs Y))) : RdN w v Y := by
  obtain ⟨A, c, rfl⟩ := o.form
  exact ⟨A, c, rfl, o.rd⟩
theorem Rd.uniq {w : World} {B : Nat} {A : Option Addr} {xs ys : List Value} (h1 : Rd w B A xs) (h2 : Rd w B A ys) (hl : xs.length = ys.length) : xs = ys := by
  apply List.ext_getElem hl
  intro k k1 k2
  obtain ⟨a, e1, _, c1⟩ := h1.at_ k1
  obtain ⟨a', e2, _, c2⟩ := h2.at_ k2
  rw [e1] at e2; injection e2 with e2; subst e2
  rw [c1] at c2
  injection c2
theorem RdN.uniq {w : World} {v : Value} {X Y : Nat} (h1 : RdN w v X) (h2 : RdN w v Y) : X = Y := by
  obtain ⟨A, c, rfl, r1⟩ := h1
  obtain ⟨A', c', e, r2⟩ := h2
  injection e with e1 e2 e3
  subst e1
  exact limbs_inj (iv_inj (r1.uniq r2 (by rw [iv_len, iv_len]; exact e2)))
noncomputable def numR (v : Value) (w : World) : Nat :=
  open Classical in if h : ∃ Y, RdN w v Y then Classical.choose h else 0
theorem numR_eq {v : Value} {w : World} {Y : Nat} (h : RdN w v Y) : numR v w = Y := by
  unfold numR
  have he : ∃ Y, RdN w v Y := ⟨Y, h⟩
  rw [dif_pos he]
  exact (Classical.choose_spec he).uniq h
theorem split_lead (l : List Int) (k : Nat) (h : Limbs l) : ∃ α : Int, val l = val (l.drop k) * 1000000000 ^ k + α ∧ 0 ≤ α ∧ α < 1000000000 ^ k := by
  by_cases hk : k ≤ l.length
  · refine ⟨val (l.take k), ?_, val_nonneg (h.take k), ?_⟩
    · conv => lhs; rw [← List.take_append_drop k l, val_append, List.length_take, Nat.min_eq_left hk]
      rw [Int.mul_comm]; omega
    · have := val_lt (h.take k)
      rwa [List.length_take, Nat.min_eq_left hk] at this
  · refine ⟨val l, ?_, val_nonneg h, ?_⟩
    · rw [List.drop_of_length_le (by omega)]; simp [val]
    · exact Int.lt_of_lt_of_le (val_lt h) (pow_le' (by omega))
theorem keep4 {w w' : World} {g : Nat} {E : TypeId} {a b c d : Int} (h : Blk w g E [a, b, c, d]) (hb : Below w.heap.size w w') : w'.cell? ⟨g, 0, none⟩ = some (.int .i64 a) ∧ w'.cell? ⟨g, 1, none⟩ = some (.int .i64 b) ∧ w'.cell? ⟨g, 2, none⟩ = some (.int .i64 c) ∧ w'.cell? ⟨g, 3, none⟩ = some (.int .i64 d) ∧ Below w.heap.size w w' := by
  have h' := h.below hb h.lt
  exact ⟨h'.cell (j := 0) (by simp), h'.cell (j := 1) (by simp), h'.cell (j := 2) (by simp), h'.cell (j := 3) (by simp), hb⟩

set_option maxRecDepth 100000 in
set_option maxHeartbeats 3200000 in
theorem impl_after (w : World) (A A' : Option Addr) (c c' P Q : Nat) (hx : Rd w w.heap.size A (iv (limbs P))) (hy : Rd w w.heap.size A' (iv (limbs Q))) (hP6 : P < 1000000000 ^ 60) (hQP : Q ≤ P) (hQ0 : 0 < Q) (hP3 : 3 ≤ (limbs P).length) :
    Calls Try.prog 54 #[.slice A (limbs P).length c, .slice A' (limbs Q).length c'] w fun e w' => ∃ v1 v2 P2 Q2, e = .returned (.tuple #[v1, v2]) ∧ RdN w' v1 P2 ∧ RdN w' v2 Q2 ∧ Nat.gcd P2 Q2 = Nat.gcd P Q ∧ Q2 < P2 ∧ P2 ≤ Q ∧ Below w.heap.size w w' := by
  obtain ⟨n, hn⟩ : ∃ n, n = (limbs P).length := ⟨_, rfl⟩
  obtain ⟨m, hm⟩ : ∃ m, m = (limbs Q).length := ⟨_, rfl⟩
  have hn6 : n ≤ 60 := by rw [hn]; exact limbs_len.2 hP6
  have hmn : m ≤ n := by
    rw [hm]; refine limbs_len.2 (Nat.lt_of_le_of_lt hQP (limbs_len.1 (Nat.le_of_eq hn.symm)))
  have hm0 : 0 < m := by rw [hm]; exact List.length_pos_iff.2 (fun e => by have := limbs_nil.1 e; omega)
  have hlP := limbs_ok P
  have hlQ := limbs_ok Q
  have HX1 := hide (impl_leading w w.heap.size A n c n (limbs P) hn.symm hx hlP (by omega) (Nat.le_refl _) (by omega))
  have HX2 := hide (impl_leading w w.heap.size A' m c' n (limbs Q) hm.symm hy hlQ (by omega) hmn (by omega))
  obtain ⟨α, ea, α0, α1⟩ := split_lead (limbs P) (n - 2) hlP
  obtain ⟨β, eb, β0, β1⟩ := split_lead (limbs Q) (n - 2) hlQ
  have hXl := val_short (hlP.drop (n - 2)) (k := 2) (by rw [List.length_drop]; omega)
  have hYl := val_short (hlQ.drop (n - 2)) (k := 2) (by rw [List.length_drop]; omega)
  rw [val_limbs] at ea eb
  generalize val ((limbs P).drop (n - 2)) = X at *
  generalize val ((limbs Q).drop (n - 2)) = Y at *
  have hYX : Y ≤ X := by
    rcases Int.lt_or_le X Y with h | h
    · have := Int.mul_le_mul_of_nonneg_right (show X + 1 ≤ Y by omega) (Int.le_of_lt (pow_pos' (n - 2)))
      rw [Int.add_mul, Int.one_mul] at this
      omega
    · exact h
  have HSU := hide (fun w1 : World => impl_sure w1 X Y (by have := hXl.2; omega) hYX hYl.1)
  have HUSE := hide (fun (x y a1 b1 a2 b2 : Int) (h : Cof X Y x y a1 b1 a2 b2) (hb : b1 ≠ 0) => h.use hb ea eb α0 α1 β0 β1)
  have HC2 := hide (fun (x y a1 b1 a2 b2 : Int) (h : Cof X Y x y a1 b1 a2 b2) => h.c2 (by have := hXl.2; omega) hYX)
  have hPn : (P : Int) < 1000000000 ^ n := by rw [pow_cast]; exact Int.ofNat_lt.2 (limbs_len.1 (Nat.le_of_eq hn.symm))
  have HD := hide (fun (w1 : World) (h1 : Rd w1 w1.heap.size A (iv (limbs P))) (h2 : Rd w1 w1.heap.size A' (iv (limbs Q))) => impl_Div w1 w1.heap.size (Nat.le_refl _) A A' n m c c' (limbs P) (limbs Q) hn.symm hm.symm h1 h2 (by omega) (by omega) (limbs_canon P) (limbs_canon Q) hm0)
  have HCM := hide (fun (w1 : World) (h1 : Rd w1 w1.heap.size A (iv (limbs P))) (h2 : Rd w1 w1.heap.size A' (iv (limbs Q))) (fa fb : Int) (hfa : -1000000000 ≤ fa ∧ fa ≤ 1000000000) (hfb : -1000000000 ≤ fb ∧ fb ≤ 1000000000) (R : Nat) (hR : (R : Int) = fa * val (limbs P) + fb * val (limbs Q)) (hRP : R ≤ P) => impl_combined w1 w1.heap.size (Nat.le_refl _) A A' n m c c' (limbs P) (limbs Q) fa fb hn.symm hm.symm h1 h2 hlP hlQ hmn (by omega) hfa hfb R hR (Int.lt_of_le_of_lt (Int.ofNat_le.2 hRP) (Int.lt_of_lt_of_le hPn (pow_le' (Nat.le_succ n)))))
  have HRX := hide hx
  have HRY := hide hy
  have HN := hide hn
  have HM := hide hm
  rw [← hn, ← hm]
  clear hn hm hlP hlQ ea eb α0 α1 β0 β1 hXl hYl hx hy hPn hYX
  go_enter Try.func54, Try.ntmps54
  go_wp2_with fail
  refine HX1.out.mono ?_
  rintro e w' ⟨rfl, rfl⟩
  go_wp2_with fail
  refine HX2.out.mono ?_
  rintro e w' ⟨rfl, rfl⟩
  go_wp2_with fail
  refine (HSU.out w).mono ?_
  rintro e w1 ⟨x, y, a1, b1, a2, b2, rfl, HCF, hb1⟩
  obtain ⟨hc1, hc2, hc3, hc4⟩ := HCF.out.c1
  obtain ⟨hc5, hc6, hc7, hc8⟩ := HC2.out _ _ _ _ _ _ HCF.out
  obtain ⟨W, hW⟩ : ∃ W, W = w1.alloc (.cells #[.int .i64 a1, .int .i64 b1, .int .i64 a2, .int .i64 b2] 92) := ⟨_, rfl⟩
  have hkW : Blk W w1.heap.size 92 [a1, b1, a2, b2] := by rw [hW]; exact alloc_blk w1 _ [a1, b1, a2, b2] (by unfold maxLen; show 4 ≤ _; omega)
  have hbW : Below w.heap.size w W := by rw [hW]; exact hb1.alloc hb1.size _
  obtain ⟨hk0, hk1, hk2, hk3, _⟩ := keep4 hkW (Below.refl _ _)
  obtain ⟨g, hg⟩ : ∃ g, g = w1.heap.size := ⟨_, rfl⟩
  have hxW := (HRX.out.below hbW).wider hbW.size
  have hyW := (HRY.out.below hbW).wider hbW.size
  have HXW := hide hxW
  have HYW := hide hyW
  have HBW := hide hbW
  by_cases hb0 : b1 = 0
  · subst hb0
    have hr : (val (limbs P) % val (limbs Q)).toNat = P % Q := by rw [val_limbs, val_limbs, rem_nat]
    have HR := hide hr
    have HDW := hide (HD.out W hxW hyW)
    have HG2 : Hid (Nat.gcd Q (P % Q) = Nat.gcd P Q ∧ P % Q < Q) := by
      refine ⟨?_, Nat.mod_lt _ hQ0⟩
      rw [Nat.gcd_comm P Q, Nat.gcd_rec Q P, Nat.gcd_comm]
    clear hxW hyW hkW hb1 hr
    go_wp2_with fail
    rw [← hW]
    refine HDW.out.mono ?_
    rintro e w3 ⟨v1, v2, rfl, ⟨l1, h1, l2, h2, _, o2, _, hl2, _, hh2, _⟩, hb3⟩
    rw [HR.out] at o2
    have HR2 := hide (o2.rdN)
    have HB3 := hide (hbW.trans (hb3.mono hbW.size))
    have HRQ : Hid (RdN w3 (.slice A' m c') Q) := by
      refine ⟨A', c', by rw [HM.out], (HYW.out.below hb3).wider hb3.size⟩
    clear o2 hb3 hW
    go_wp2_with fail
    go_ret2
    exact ⟨_, _, Q, P % Q, rfl, HRQ.out, HR2.out, HG2.out.1, HG2.out.2, Nat.le_refl _, HB3.out⟩
  · have hbz : (b1 == 0) = false := by simp [hb0]
    obtain ⟨R1, R2, hR1, hR2, hgcd, hlt, hle⟩ := HUSE.out _ _ _ _ _ _ HCF.out hb0
    have HCA := hide (fun (w3 : World) (h : Below W.heap.size W w3) => HCM.out w3 ((HXW.out.below h).wider h.size) ((HYW.out.below h).wider h.size) a1 b1 ⟨hc1, hc2⟩ ⟨hc3, hc4⟩ R1 (by rw [val_limbs, val_limbs]; exact hR1) (by omega))
    have HCB := hide (fun (w3 : World) (h : Below W.heap.size W w3) => HCM.out w3 ((HXW.out.below h).wider h.size) ((HYW.out.below h).wider h.size) a2 b2 ⟨hc5, hc6⟩ ⟨hc7, hc8⟩ R2 (by rw [val_limbs, val_limbs]; exact hR2) (by omega))
    have HGG := hide (And.intro hgcd (And.intro hlt hle))
    have HK := hide hkW
    clear hxW hyW hbW hb1 hR1 hR2 hgcd hlt hle HCM HD HUSE HC2 HSU hb0 hkW
    go_wp2_with fail
    rw [← hW]
    rw [← hg] at hk0 hk1 hk2 hk3 HK
    rw [← hg]
    clear hW hg
    have HDR : Hid (Below W.heap.size W W.drew) := (Below.refl _ _).drew
    go_region_held3 (fun w' => w'.cell? ⟨g, 0, none⟩ = some (.int .i64 a1) ∧ w'.cell? ⟨g, 1, none⟩ = some (.int .i64 b1) ∧ w'.cell? ⟨g, 2, none⟩ = some (.int .i64 a2) ∧ w'.cell? ⟨g, 3, none⟩ = some (.int .i64 b2) ∧ Below W.heap.size W w')
      (first | (with_reducible exact keep4 HK.out (Below.refl _ _).drew) | (with_reducible exact keep4 HK.out hSA) | (with_reducible exact keep4 HK.out hSB))
      (first
        | (go_at_call_has 69 a1; refine (HCA.out _ HDR.out).mono ?_; rintro e w3 ⟨v1, rfl, o1, hbA⟩; have hSA := HDR.out.trans (Below.mono hbA HDR.out.size))
        | (go_at_call_has 69 a2; refine (HCB.out _ hSA).mono ?_; rintro e w4 ⟨v2, rfl, o2, hbB⟩; have hSB := hSA.trans (Below.mono hbB hSA.size)))
    have HR1 := hide ((o1.rdN).below hbB)
    have HR2 := hide o2.rdN
    have HB4 := hide (HBW.out.trans (Below.mono hSB HBW.out.size))
    clear o1 o2 hbA hbB hSA hSB
    go_wp2_with fail
    go_ret2
    exact ⟨_, _, R1, R2, rfl, HR1.out, HR2.out, HGG.out.1, HGG.out.2.1, HGG.out.2.2, HB4.out⟩
end Go.Proofs.Ytdcceppednngjab

/-
  The program's natural numbers: contracts (11): NatGcd.
-/

namespace Go.Proofs.Ytdcceppednngjab
open Go.RowKit
set_option linter.unusedVariables false

set_option maxRecDepth 100000 in
set_option maxHeartbeats 6400000 in
theorem impl_NatGcd (w : World) (B : Nat) (hB : B ≤ w.heap.size) (A0 : Option Addr) (n0 c0 : Nat) (xs0 : List Int) (R0 : RdI w B A0 n0 xs0) (A1 : Option Addr) (n1 c1 : Nat) (xs1 : List Int) (R1 : RdI w B A1 n1 xs1) :
    Calls Try.prog 35 #[.slice A0 n0 c0, .slice A1 n1 c1] w fun e w' => ∃ v, e = .returned v ∧ Own w' w.heap.size w'.heap.size 3 v (gcdL xs0 xs1).length (iv (gcdL xs0 xs1)) ∧ Below w.heap.size w w' := by
  have H0 := hide (impl_NatOk w B hB A0 n0 c0 xs0 R0)
  have H1 := hide (impl_NatOk w B hB A1 n1 c1 xs1 R1)
  by_cases h0 : natB xs0 = true
  · by_cases h1 : natB xs1 = true
    · have hG := gcdL_ok h0 h1
      have hP6 := natV_lt60 h0
      have hQ6 := natV_lt60 h1
      have e0 := limbs_natV h0
      have e1 := limbs_natV h1
      have HC := impl_Cmp w B A0 A1 n0 n1 c0 c1 xs0 xs1 R0.1 R1.1 R0.2.1 R1.2.1 (by have := R0.2.2.1; omega) (by have := R1.2.2.1; omega) ((natB_iff xs0).1 h0).1 ((natB_iff xs1).1 h1).1
      rw [← natV_val h0, ← natV_val h1] at HC
      have HP0 : Hid (∀ w', Below w.heap.size w w' → RdN w' (.slice A0 n0 c0) (natV xs0)) := fun w' hb => ⟨A0, c0, by rw [e0, R0.1], by rw [e0]; exact (R0.2.1.below (hb.mono hB)).wider (Nat.le_trans hB hb.size)⟩
      have HQ0 : Hid (∀ w', Below w.heap.size w w' → RdN w' (.slice A1 n1 c1) (natV xs1)) := fun w' hb => ⟨A1, c1, by rw [e1, R1.1], by rw [e1]; exact (R1.2.1.below (hb.mono hB)).wider (Nat.le_trans hB hb.size)⟩
      rw [← hG]
      generalize natV xs0 = P0 at *
      generalize natV xs1 = Q0 at *
      obtain ⟨G, hGe⟩ : ∃ G, G = Nat.gcd P0 Q0 := ⟨_, rfl⟩
      rw [← hGe]
      have HGE := hide hGe
      clear hG e0 e1 R0 R1 hGe
      by_cases hlt : (P0 : Int) < Q0
      · rw [cmpV_lt hlt] at HC
        have HCC := hide HC
        clear HC
        go_enter Try.func35, Try.ntmps35
        go_wp2_with fail
        refine H0.out.mono ?_
        rintro e w' ⟨rfl, rfl⟩
        go_wp2_with fail
        refine H1.out.mono ?_
        rintro e w' ⟨rfl, rfl⟩
        go_wp2_with fail
        refine HCC.out.mono ?_
        rintro e w' ⟨rfl, d, rfl⟩
        have hbd := below_drewN (Below.refl w.heap.size w) d
        clear HCC
        go_wp2_with fail
        go_loopw [0, 1] (fun a b wr => ∃ P Q : Nat, P < 1000000000 ^ 60 ∧ Q ≤ P ∧ RdN wr a P ∧ RdN wr b Q ∧ Hid (Nat.gcd P Q = G) ∧ Below w.heap.size w wr) (fun _ b wr => numR b wr)
        case atStart => exact ⟨Q0, P0, hQ6, by omega, HQ0.out _ hbd, HP0.out _ hbd, by show _ = _; rw [HGE.out, Nat.gcd_comm], hbd⟩
        case round =>
          clear HP0 HQ0 hP6 hQ6 hbd
          obtain ⟨P, Q, hP6, hQP, ⟨A1, c1, rfl, r1⟩, ⟨A2, c2, rfl, r2⟩, HG, hbl⟩ := hrel
          have hpl := limbs_len.2 hP6
          have hql := limbs_len.2 (Nat.lt_of_le_of_lt hQP hP6)
          have hbs := hbl.size
          by_cases h0 : Q = 0
          · subst h0
            have HE : Hid (P = G) := by have := HG.out; rwa [Nat.gcd_zero_right] at this
            have hl0 : (limbs 0).length = 0 := by rw [limbs_zero]; rfl
            have HW := hide (impl_widened wr wr.heap.size (Nat.le_refl _) A1 (limbs P).length c1 (limbs P).length (limbs P) rfl r1 (Nat.le_refl _) (by omega))
            clear r1 r2 HG
            go_wp2_with fail
            refine HW.out.mono ?_
            rintro e w2 ⟨g, rfl, hg, hblk, hb2⟩
            have hgl := hblk.lt
            have hO := hblk.own (limbs P).length (limbs P).length (by simp) (by simp)
            rw [Nat.sub_self, List.replicate_zero, List.append_nil, List.take_of_length_le (Nat.le_refl _)] at hO
            have HO := hide (hO.wider (lo' := w.heap.size) (hi' := w2.heap.size) (by omega) hgl)
            have HB2 := hide (hbl.trans (hb2.mono hbs))
            clear hblk hO hb2 HW
            go_wp2_with fail
            go_ret
            exact ⟨_, rfl, by rw [← HE.out]; exact HO.out, HB2.out⟩
          · have hq0 : 0 < (limbs Q).length := List.length_pos_iff.2 (fun e => h0 (limbs_nil.1 e))
            by_cases h2 : (limbs P).length ≤ 2
            · have hp18 : P ≤ 999999999999999999 := by have := limbs_len.1 h2; omega
              have hq2 : (limbs Q).length ≤ 2 := limbs_len.2 (Nat.lt_of_le_of_lt hQP (limbs_len.1 h2))
              have H1 := impl_leading wr wr.heap.size A1 (limbs P).length c1 2 (limbs P) rfl r1 (limbs_ok P) (Nat.le_refl _) h2 (by omega)
              have H2 := impl_leading wr wr.heap.size A2 (limbs Q).length c2 2 (limbs Q) rfl r2 (limbs_ok Q) (Nat.le_refl _) hq2 (by omega)
              rw [Nat.sub_self, List.drop_zero, val_limbs] at H1 H2
              have H3 := impl_gcdInts wr P Q (by omega) (by omega)
              rw [HG.out] at H3
              have hg18 : G ≤ 999999999999999999 := by
                rw [← HG.out]; exact Nat.le_trans (Nat.gcd_le_right _ (by omega)) (by omega)
              have HH1 := hide H1
              have HH2 := hide H2
              have HH3 := hide H3
              have HO := hide (fun d : Nat => impl_NatOf (wr.drewN d) (wr.drewN d).heap.size (Nat.le_refl _) (G : Int) (WalkArith.wf_i64 ⟨by omega, by omega⟩))
              clear r1 r2 HG H1 H2 H3
              go_wp2_with fail
              refine HH1.out.mono ?_
              rintro e w' ⟨rfl, rfl⟩
              go_wp2_with fail
              refine HH2.out.mono ?_
              rintro e w' ⟨rfl, rfl⟩
              go_wp2_with fail
              refine HH3.out.mono ?_
              rintro e w' ⟨rfl, d, rfl⟩
              go_wp2_with fail
              refine (HO.out d).mono ?_
              rintro e w5 ⟨v, rfl, o5, hb5⟩
              rw [Int.toNat_natCast] at o5
              have hbd := below_drewN hbl d
              have HO5 := hide (o5.wider (lo' := w.heap.size) (hi' := w5.heap.size) hbd.size (Nat.le_refl _))
              have HB5 := hide (hbd.trans (hb5.mono hbd.size))
              clear o5 hb5 hbd HO HH1 HH2 HH3
              go_wp2_with fail
              go_ret
              exact ⟨_, rfl, HO5.out, HB5.out⟩
            · have HA := hide (impl_after wr A1 A2 c1 c2 P Q r1 r2 hP6 hQP (by omega) (by omega))
              have HR2 : Hid (RdN wr (.slice A2 (limbs Q).length c2) Q) := ⟨A2, c2, rfl, r2⟩
              have h2' : 2 < (limbs P).length := by omega
              clear r1 r2 h2
              go_wp2_with fail
              refine HA.out.mono ?_
              rintro e w3 ⟨v1, v2, P2, Q2, rfl, s1, s2, hgc, hlt, hle, hb3⟩
              have HS1 := hide s1
              have HS2 := hide s2
              have HG2 : Hid (Nat.gcd P2 Q2 = G) := hgc.trans HG.out
              have HB3 := hide (hbl.trans (hb3.mono hbs))
              have HMS : Hid (numR v2 w3 < numR (.slice A2 (limbs Q).length c2) wr) := by
                show _ < _
                rw [numR_eq s2, numR_eq HR2.out]; omega
              have hP26 : P2 < 1000000000 ^ 60 := Nat.lt_of_le_of_lt (Nat.le_trans hle hQP) hP6
              clear s1 s2 hgc hb3 HA
              go_wp2_with fail
              go_roundw
              case rel => exact ⟨P2, Q2, hP26, by omega, HS1.out, HS2.out, HG2.out, HB3.out⟩
              case measure => exact HMS.out
      · have hcv : ¬ cmpV (P0 : Int) Q0 < 0 := fun h => hlt (cmpV_negI.1 h)
        generalize cmpV (P0 : Int) Q0 = cv at *
        have HCC := hide HC
        clear HC
        go_enter Try.func35, Try.ntmps35
        go_wp2_with fail
        refine H0.out.mono ?_
        rintro e w' ⟨rfl, rfl⟩
        go_wp2_with fail
        refine H1.out.mono ?_
        rintro e w' ⟨rfl, rfl⟩
        go_wp2_with fail
        refine HCC.out.mono ?_
        rintro e w' ⟨rfl, d, rfl⟩
        have hbd := below_drewN (Below.refl w.heap.size w) d
        clear HCC
        go_wp2_with fail
        go_loopw [0, 1] (fun a b wr => ∃ P Q : Nat, P < 1000000000 ^ 60 ∧ Q ≤ P ∧ RdN wr a P ∧ RdN wr b Q ∧ Hid (Nat.gcd P Q = G) ∧ Below w.heap.size w wr) (fun _ b wr => numR b wr)
        case atStart => exact ⟨P0, Q0, hP6, by omega, HP0.out _ hbd, HQ0.out _ hbd, HGE.out.symm, hbd⟩
        case round =>
          clear HP0 HQ0 hP6 hQ6 hbd
          obtain ⟨P, Q, hP6, hQP, ⟨A1, c1, rfl, r1⟩, ⟨A2, c2, rfl, r2⟩, HG, hbl⟩ := hrel
          have hpl := limbs_len.2 hP6
          have hql := limbs_len.2 (Nat.lt_of_le_of_lt hQP hP6)
          have hbs := hbl.size
          by_cases h0 : Q = 0
          · subst h0
            have HE : Hid (P = G) := by have := HG.out; rwa [Nat.gcd_zero_right] at this
            have hl0 : (limbs 0).length = 0 := by rw [limbs_zero]; rfl
            have HW := hide (impl_widened wr wr.heap.size (Nat.le_refl _) A1 (limbs P).length c1 (limbs P).length (limbs P) rfl r1 (Nat.le_refl _) (by omega))
            clear r1 r2 HG
            go_wp2_with fail
            refine HW.out.mono ?_
            rintro e w2 ⟨g, rfl, hg, hblk, hb2⟩
            have hgl := hblk.lt
            have hO := hblk.own (limbs P).length (limbs P).length (by simp) (by simp)
            rw [Nat.sub_self, List.replicate_zero, List.append_nil, List.take_of_length_le (Nat.le_refl _)] at hO
            have HO := hide (hO.wider (lo' := w.heap.size) (hi' := w2.heap.size) (by omega) hgl)
            have HB2 := hide (hbl.trans (hb2.mono hbs))
            clear hblk hO hb2 HW
            go_wp2_with fail
            go_ret
            exact ⟨_, rfl, by rw [← HE.out]; exact HO.out, HB2.out⟩
          · have hq0 : 0 < (limbs Q).length := List.length_pos_iff.2 (fun e => h0 (limbs_nil.1 e))
            by_cases h2 : (limbs P).length ≤ 2
            · have hp18 : P ≤ 999999999999999999 := by have := limbs_len.1 h2; omega
              have hq2 : (limbs Q).length ≤ 2 := limbs_len.2 (Nat.lt_of_le_of_lt hQP (limbs_len.1 h2))
              have H1 := impl_leading wr wr.heap.size A1 (limbs P).length c1 2 (limbs P) rfl r1 (limbs_ok P) (Nat.le_refl _) h2 (by omega)
              have H2 := impl_leading wr wr.heap.size A2 (limbs Q).length c2 2 (limbs Q) rfl r2 (limbs_ok Q) (Nat.le_refl _) hq2 (by omega)
              rw [Nat.sub_self, List.drop_zero, val_limbs] at H1 H2
              have H3 := impl_gcdInts wr P Q (by omega) (by omega)
              rw [HG.out] at H3
              have hg18 : G ≤ 999999999999999999 := by
                rw [← HG.out]; exact Nat.le_trans (Nat.gcd_le_right _ (by omega)) (by omega)
              have HH1 := hide H1
              have HH2 := hide H2
              have HH3 := hide H3
              have HO := hide (fun d : Nat => impl_NatOf (wr.drewN d) (wr.drewN d).heap.size (Nat.le_refl _) (G : Int) (WalkArith.wf_i64 ⟨by omega, by omega⟩))
              clear r1 r2 HG H1 H2 H3
              go_wp2_with fail
              refine HH1.out.mono ?_
              rintro e w' ⟨rfl, rfl⟩
              go_wp2_with fail
              refine HH2.out.mono ?_
              rintro e w' ⟨rfl, rfl⟩
              go_wp2_with fail
              refine HH3.out.mono ?_
              rintro e w' ⟨rfl, d, rfl⟩
              go_wp2_with fail
              refine (HO.out d).mono ?_
              rintro e w5 ⟨v, rfl, o5, hb5⟩
              rw [Int.toNat_natCast] at o5
              have hbd := below_drewN hbl d
              have HO5 := hide (o5.wider (lo' := w.heap.size) (hi' := w5.heap.size) hbd.size (Nat.le_refl _))
              have HB5 := hide (hbd.trans (hb5.mono hbd.size))
              clear o5 hb5 hbd HO HH1 HH2 HH3
              go_wp2_with fail
              go_ret
              exact ⟨_, rfl, HO5.out, HB5.out⟩
            · have HA := hide (impl_after wr A1 A2 c1 c2 P Q r1 r2 hP6 hQP (by omega) (by omega))
              have HR2 : Hid (RdN wr (.slice A2 (limbs Q).length c2) Q) := ⟨A2, c2, rfl, r2⟩
              have h2' : 2 < (limbs P).length := by omega
              clear r1 r2 h2
              go_wp2_with fail
              refine HA.out.mono ?_
              rintro e w3 ⟨v1, v2, P2, Q2, rfl, s1, s2, hgc, hlt, hle, hb3⟩
              have HS1 := hide s1
              have HS2 := hide s2
              have HG2 : Hid (Nat.gcd P2 Q2 = G) := hgc.trans HG.out
              have HB3 := hide (hbl.trans (hb3.mono hbs))
              have HMS : Hid (numR v2 w3 < numR (.slice A2 (limbs Q).length c2) wr) := by
                show _ < _
                rw [numR_eq s2, numR_eq HR2.out]; omega
              have hP26 : P2 < 1000000000 ^ 60 := Nat.lt_of_le_of_lt (Nat.le_trans hle hQP) hP6
              clear s1 s2 hgc hb3 HA
              go_wp2_with fail
              go_roundw
              case rel => exact ⟨P2, Q2, hP26, by omega, HS1.out, HS2.out, HG2.out, HB3.out⟩
              case measure => exact HMS.out
    · have h1' : natB xs1 = false := by simpa using h1
      have HE : Hid (gcdL xs0 xs1 = []) := by show _ = _; rw [gcdL, h1']; simp
      clear R0 R1 h1
      go_enter Try.func35, Try.ntmps35
      go_wp2_with fail
      refine H0.out.mono ?_
      rintro e w' ⟨rfl, rfl⟩
      go_wp2_with fail
      refine H1.out.mono ?_
      rintro e w' ⟨rfl, rfl⟩
      go_wp2_with fail
      go_ret
      exact ⟨_, rfl, by rw [HE.out]; exact Own.nil _ _ _ _, Below.refl _ _⟩
  · have h0' : natB xs0 = false := by simpa using h0
    have HE : Hid (gcdL xs0 xs1 = []) := by show _ = _; rw [gcdL, h0']; simp
    clear R0 R1 h0
    go_enter Try.func35, Try.ntmps35
    go_wp2_with fail
    refine H0.out.mono ?_
    rintro e w' ⟨rfl, rfl⟩
    go_wp2_with fail
    go_ret
    exact ⟨_, rfl, by rw [HE.out]; exact Own.nil _ _ _ _, Below.refl _ _⟩
end Go.Proofs.Ytdcceppednngjab
