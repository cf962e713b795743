/-
  The texts RatI, RatI2, RatI3, put together; each has its own heading below. No condition of ours.
-/
import Derived.Test.YtdcceppednngjabPB
import Derived.Test.YtdcceppednngjabBA
import Derived.Test.YtdcceppednngjabIC
import Derived.Test.YtdcceppednngjabNatLen
import Derived.Deep.CutRange
import Derived.Test.YtdcceppednngjabIB
/-
  The program's fractions: contracts (1): isOne, isShort, isValid.
-/





namespace Go.Proofs.Ytdcceppednngjab
open Go.RowKit
set_option linter.unusedVariables false
set_option maxHeartbeats 400000 in
theorem impl_isOne (w : World) (B : Nat) (hB : B ≤ w.heap.size) (D : Option Addr) (m k : Nat) (ds : List Int) (Rd' : RdI w B D m ds) :
    Calls Try.prog 34 #[.slice D m k] w fun e w' => e = .returned (.bool (decide (ds = [1]))) ∧ w = w' := by
  obtain ⟨hn, hx, _, _⟩ := Rd'
  by_cases h1 : m = 1
  · subst h1
    rw [one_dec hn (by omega)]
    obtain ⟨ad, hA, hb1, hc1⟩ := hx.int (k := 0) (by omega)
    generalize ds[0] = d at *
    subst hA
    have hc2 := hc1
    rw [add_zero'] at hc2
    go_enter Try.func34, Try.ntmps34
    go_wp2_with fail
    go_ret
    exact ⟨rfl, rfl⟩
  · rw [one_no (by omega)]
    have h1' : ((m : Int) == 1) = false := by simp; omega
    clear hx hn
    go_enter Try.func34, Try.ntmps34
    go_wp2_with fail
    go_ret
    exact ⟨rfl, rfl⟩
set_option maxHeartbeats 400000 in
theorem impl_isShort (w : World) (s : Bool) (A : Option Addr) (n c : Nat) (xs : List Int) (hxs : xs.length = n) (D : Option Addr) (m k : Nat) (ds : List Int) (hds : ds.length = m) :
    Calls Try.prog 32 #[.agg #[.bool s, .slice A n c, .slice D m k]] w fun e w' => e = .returned (.bool (shortB xs ds)) ∧ Below w.heap.size w w' := by
  have hb0 := below_new w (.cells #[.bool s, .slice A n c, .slice D m k] 32)
  by_cases h1 : n ≤ 24
  · rw [short_dec hxs hds h1]
    have h1' : (n : Int) ≤ 24 := by omega
    clear hxs hds h1
    go_enter Try.func32, Try.ntmps32
    go_wp2_with fail
    go_ret
    exact ⟨rfl, hb0⟩
  · rw [short_no hxs h1]
    have h1' : ¬ (n : Int) ≤ 24 := by omega
    clear hxs hds h1
    go_enter Try.func32, Try.ntmps32
    go_wp2_with fail
    go_ret
    exact ⟨rfl, hb0⟩
set_option maxHeartbeats 1600000 in
theorem impl_ratValid (w : World) (B : Nat) (hB : B ≤ w.heap.size) (s : Bool) (A : Option Addr) (n c : Nat) (xs : List Int) (Rx : RdI w B A n xs) (D : Option Addr) (m k : Nat) (ds : List Int) (Rd' : RdI w B D m ds) :
    Calls Try.prog 17 #[.agg #[.bool s, .slice A n c, .slice D m k]] w fun e w' => e = .returned (.bool (ratB s xs ds)) ∧ Below w.heap.size w w' := by
  have HN1 := hide (ratB_no1 (s := s) (xs := xs) (ds := ds))
  have HN2 := hide (ratB_no2 (s := s) (xs := xs) (ds := ds))
  have HN3 := hide (ratB_no3 (s := s) (xs := xs) (ds := ds))
  have HOK := hide (ratB_ok (s := s) (xs := xs) (ds := ds))
  generalize ratB s xs ds = Z at HN1 HN2 HN3 HOK ⊢
  obtain ⟨W0, hW0⟩ : ∃ W0, W0 = (w.alloc (.cells #[.bool s, .slice A n c, .slice D m k] 32)) := ⟨_, rfl⟩
  have hb0 : Below w.heap.size w W0 := by rw [hW0]; exact below_new _ _
  have k0 : Box W0 (w.heap.size) 32 #[.bool s, .slice A n c, .slice D m k] := by rw [hW0]; exact Box.last _ _ _ rfl
  have hs0 : W0.heap.size = w.heap.size + 1 := by rw [hW0, alloc_size]
  go_enter Try.func17, Try.ntmps17
  go_upto_region 1 with fail
  rw [← hW0]
  clear hW0
  obtain ⟨a0, a1, a2⟩ := k0.cells3
  go_wp2_with fail
  refine (impl_isShort W0 s A n c xs Rx.1 D m k ds Rd'.1).mono ?_
  rintro e w1 ⟨rfl, hb1⟩
  have k1 := k0.below hb1 k0.lt
  have hb1' := below_then hb0 hb1
  have hs1 := hb1.size
  clear a0 a1 a2 k0 hb0 hb1
  obtain ⟨a0, a1, a2⟩ := k1.cells3
  by_cases h1 : shortB xs ds = true
  · rw [h1]
    by_cases h2 : 0 < m
    · have h2' : (0 : Int) < (m : Int) := by omega
      have he := notE Rd'.1 h2
      go_wp2_with fail
      refine (impl_BigIntOk w1 B (by omega) s A n c xs (Rx.below (hb1'.mono hB))).mono ?_
      rintro e w2 ⟨rfl, hb2⟩
      have k2 := k1.below hb2 k1.lt
      have hb2' := below_then hb1' hb2
      have hs2 := hb2.size
      clear a0 a1 a2 k1 hb1' hb2
      obtain ⟨a0, a1, a2⟩ := k2.cells3
      by_cases h3 : bigB s xs = true
      · rw [h3]
        have hz := HOK.out h1 he h3
        subst hz
        clear HN1 HN2 HN3 HOK h1 he h3 h2
        go_wp2_with fail
        refine (impl_NatGcd w2 B (by omega) A n c xs (Rx.below (hb2'.mono hB)) D m k ds (Rd'.below (hb2'.mono hB))).mono ?_
        rintro e w3 ⟨v3, rfl, o3, hb3⟩
        obtain ⟨A3, c3, rfl⟩ := o3.form
        have hb3' := below_then hb2' hb3
        have R3 := RdI.of_own o3 (gcdL_len _ _) (limbs_gcdL _ _)
        clear a0 a1 a2 k2 o3 hb2' hb3
        go_wp2_with fail
        refine (impl_isOne w3 w3.heap.size (Nat.le_refl _) A3 _ c3 _ R3).mono ?_
        rintro e w4 ⟨rfl, rfl⟩
        clear R3
        go_wp2_with fail
        go_ret
        exact ⟨rfl, hb3'⟩
      · have h3 : bigB s xs = false := by simpa using h3
        have hz := HN3.out h3
        subst hz
        rw [h3]
        clear HN1 HN2 HN3 HOK
        go_wp2_with fail
        go_ret
        exact ⟨rfl, hb2'⟩
    · have hz := HN2.out (isE Rd'.1 h2)
      subst hz
      have h2' : ¬ (0 : Int) < (m : Int) := by omega
      clear HN1 HN2 HN3 HOK
      go_wp2_with fail
      go_ret
      exact ⟨rfl, hb1'⟩
  · have h1 : shortB xs ds = false := by simpa using h1
    have hz := HN1.out h1
    subst hz
    rw [h1]
    clear HN1 HN2 HN3 HOK
    go_wp2_with fail
    go_ret
    exact ⟨rfl, hb1'⟩
end Go.Proofs.Ytdcceppednngjab

/-
  The program's fractions: contracts (2): reduced.
-/



namespace Go.Proofs.Ytdcceppednngjab
open Go.RowKit
set_option linter.unusedVariables false
set_option maxHeartbeats 3200000 in
theorem impl_reduced (w : World) (B : Nat) (hB : B ≤ w.heap.size) (s : Bool) (A : Option Addr) (n c : Nat) (xs : List Int) (Rx : RdI w B A n xs) (hx : bigB s xs = true) (D : Option Addr) (m k : Nat) (ds : List Int) (Rd' : RdI w B D m ds) (hd : natB ds = true) (h0 : ds.isEmpty = false) :
    Calls Try.prog 20 #[.agg #[.bool s, .slice A n c], .slice D m k] w fun e w' => RatRes 3 w w' e (lowR (zv s xs) (natV ds)) := by
  have hn := bigB_nat hx
  obtain ⟨g1, g2, g3, g4⟩ := natB_gcd hn hd h0
  have hz := low_prog hx hd h0
  have hla := quoL_60 hn g1
  have hlb := quoL_60 hd g1
  generalize lowR (zv s xs) (natV ds) = Z at hz ⊢
  obtain ⟨W0, hW0⟩ : ∃ W0, W0 = ((w.alloc (.cells #[.bool s, .slice A n c] 30)).alloc (.cells #[.bool false, .slice none 0 0, .slice none 0 0] 32)) := ⟨_, rfl⟩
  have hb0 : Below w.heap.size w W0 := by rw [hW0]; exact below_alloc (below_new _ _) _
  have kx : Box W0 (w.heap.size) 30 #[.bool s, .slice A n c] := by rw [hW0]; exact (Box.last _ _ _ rfl).alloc _
  have kr : Box W0 (w.heap.size + 1) 32 #[.bool false, .slice none 0 0, .slice none 0 0] := by rw [hW0]; exact Box.last _ _ _ (alloc_size _ _).symm
  have hs0 : W0.heap.size = w.heap.size + 2 := by rw [hW0, alloc_size, alloc_size]
  go_enter Try.func20, Try.ntmps20
  go_upto_region 1 with fail
  rw [← hW0]
  clear hW0
  obtain ⟨a0, a1⟩ := kx.cells2
  go_wp2_with fail
  refine (impl_NatGcd W0 B (by omega) A n c xs (Rx.below (hb0.mono hB)) D m k ds (Rd'.below (hb0.mono hB))).mono ?_
  rintro e w1 ⟨v1, rfl, o1, hb1⟩
  obtain ⟨A1, c1, rfl⟩ := o1.form
  have hs1 := hb1.size
  have kx1 := kx.below hb1 kx.lt
  have kr1 := kr.below hb1 kr.lt
  have hb1' := below_then hb0 hb1
  have R1 := RdI.of_own o1 (gcdL_len _ _) (limbs_gcdL _ _)
  clear a0 a1 kx kr hb0 hb1
  obtain ⟨a0, a1⟩ := kx1.cells2
  go_wp2_with fail
  refine (impl_NatDiv w1 w1.heap.size (Nat.le_refl _) A n c xs (pair_up (Rx.below (hb1'.mono hB)) (by omega)) A1 _ c1 (gcdL xs ds) R1).mono ?_
  rintro e w2 ⟨v2, v2', rfl, ⟨l2, h2, _, _, o2, _, hl2, _, hh2, _, _⟩, hb2⟩
  obtain ⟨A2, c2, rfl⟩ := o2.form
  have hs2 := hb2.size
  have kx2 := kx1.below hb2 kx1.lt
  have kr2 := kr1.below hb2 kr1.lt
  have hb2' := below_then hb1' hb2
  have R2 := pair_up (R1.below (hb2.mono (Nat.le_refl _))) hs2
  clear a0 a1 kx1 kr1 hb1' hb2 R1 o1
  obtain ⟨a0, a1⟩ := kx2.cells2
  go_wp2_with fail
  refine (impl_NatDiv w2 w2.heap.size (Nat.le_refl _) D m k ds (pair_up (Rd'.below (hb2'.mono hB)) (by omega)) A1 _ c1 (gcdL xs ds) R2).mono ?_
  rintro e w3 ⟨v3, v3', rfl, ⟨l3, h3, _, _, o3, _, hl3, _, hh3, _, _⟩, hb3⟩
  obtain ⟨A3, c3, rfl⟩ := o3.form
  have hs3 := hb3.size
  have kx3 := kx2.below hb3 kx2.lt
  have kr3 := kr2.below hb3 kr2.lt
  have hb3' := below_then hb2' hb3
  have P3 : Pair w3 W0.heap.size 3 (.slice A2 (quoL xs (gcdL xs ds)).length c2) (quoL xs (gcdL xs ds)) (.slice A3 (quoL ds (gcdL xs ds)).length c3) (quoL ds (gcdL xs ds)) := ⟨l2, h2, l3, h3, o2.below hb3 hh2, o3, by omega, by omega, by omega, hh3, .inl (by omega)⟩
  clear a0 a1 kx2 kr2 hb2' hb3 R2 o2 o3 Rx Rd' g1 g2 g3 g4 hx hd h0 hn
  generalize quoL xs (gcdL xs ds) = L at *
  generalize quoL ds (gcdL xs ds) = K at *
  obtain ⟨a0, a1⟩ := kx3.cells2
  obtain ⟨w4, hw4⟩ : ∃ x, x = w3.alloc (.cells #[.bool s, .slice A2 L.length c2, .slice A3 K.length c3] 32) := ⟨_, rfl⟩
  have k4 : Box w4 w3.heap.size 32 #[.bool s, .slice A2 L.length c2, .slice A3 K.length c3] := by rw [hw4]; exact Box.last _ _ _ rfl
  have b4 : Below w3.heap.size w3 w4 := by rw [hw4]; exact below_new _ _
  have hs4 : w4.heap.size = w3.heap.size + 1 := by rw [hw4, alloc_size]
  have kr4 := kr3.below b4 kr3.lt
  have hb4' := below_then hb3' b4
  have P4 := P3.below b4
  clear kr3 P3 b4 hb3'
  go_upto_region 5 with fail
  rw [← hw4]
  clear hw4 a0 a1 kx3
  obtain ⟨a0, a1, a2⟩ := k4.cells3
  go_wp2_with fail
  refine (impl_isShort w4 s A2 _ c2 L rfl A3 _ c3 K rfl).mono ?_
  rintro e w5 ⟨rfl, hb5⟩
  have k5 := k4.below hb5 k4.lt
  have kr5 := kr4.below hb5 kr4.lt
  have hb5' := below_then hb4' hb5
  have P5 := P4.below hb5
  have hs5 := hb5.size
  clear a0 a1 a2 k4 kr4 P4 hb4' hb5
  by_cases hsh : shortB L K = true
  · rw [hsh, if_pos rfl] at hz
    subst hz
    rw [hsh]
    obtain ⟨a0, a1, a2⟩ := k5.cells3
    obtain ⟨z0, z1, z2, z3, z4, z5⟩ := kr5.facts3
    have HO := hide (ret_rat kr5 P5 hb5' (x := s) (show w.heap.size ≤ w.heap.size + 1 by omega) (by omega))
    clear kr5 P5 hb5' k5
    go_wp2_with fail
    refine bodyPost_ret (results_cell_row rfl _ _ (w.heap.size + 1) _ #[.bool s, .slice A2 L.length c2, .slice A3 K.length c3] (0, 0) _ rfl HO.out.1 Try.underlying32 rfl Try.sizeRat) rfl ?_
    exact ⟨_, _, rfl, HO.out.2.1, HO.out.2.2⟩
  · have hsh : shortB L K = false := by simpa using hsh
    rw [hsh, if_neg (by simp)] at hz
    subst hz
    rw [hsh]
    have HO := hide (ret_rat0 (F := 3) kr5 hb5' (show w.heap.size ≤ w.heap.size + 1 by omega))
    obtain ⟨z0, z1, z2, z3, z4, z5⟩ := kr5.facts3
    clear kr5 P5 hb5' k5
    go_wp2_with fail
    refine bodyPost_ret (results_cell_row rfl _ _ (w.heap.size + 1) _ #[.bool false, .slice none 0 0, .slice none 0 0] (0, 0) _ rfl HO.out.1 Try.underlying32 rfl Try.sizeRat) rfl ?_
    exact ⟨_, _, rfl, HO.out.2.1, HO.out.2.2⟩
end Go.Proofs.Ytdcceppednngjab

/-
  The program's fractions: contracts (3): RatMake, RatOf, RatFromInt.
-/



namespace Go.Proofs.Ytdcceppednngjab
open Go.RowKit
set_option linter.unusedVariables false
set_option maxHeartbeats 3200000 in
theorem impl_RatMake (w : World) (B : Nat) (hB : B ≤ w.heap.size) (s : Bool) (A : Option Addr) (n c : Nat) (xs : List Int) (Rx : RdI w B A n xs) (t : Bool) (A' : Option Addr) (n' c' : Nat) (ys : List Int) (Ry : RdI w B A' n' ys) :
    Calls Try.prog 31 #[.agg #[.bool s, .slice A n c], .agg #[.bool t, .slice A' n' c']] w fun e w' => RatRes 3 w w' e (makeR s xs t ys) := by
  have HNO := hide (makeR_no (s := s) (t := t) (xs := xs) (ys := ys))
  have HP := hide (fun (h : t = false) (h1 : bigB s xs = true) (h2 : bigB t ys = true) => by subst h; exact makeR_pos h1 h2 : t = false → bigB s xs = true → bigB t ys = true → makeR s xs t ys = lowR (zv s xs) (natV ys))
  have HM := hide (fun (h : t = true) (h1 : bigB s xs = true) (h2 : bigB t ys = true) => by subst h; exact makeR_neg h1 h2 : t = true → bigB s xs = true → bigB t ys = true → makeR s xs t ys = lowR (zv (negZ s xs).1 (negZ s xs).2) (natV ys) ∧ bigB (negZ s xs).1 (negZ s xs).2 = true)
  generalize makeR s xs t ys = Z at HNO HP HM ⊢
  obtain ⟨W0, hW0⟩ : ∃ W0, W0 = (((w.alloc (.cells #[.bool s, .slice A n c] 30)).alloc (.cells #[.bool t, .slice A' n' c'] 30)).alloc (.cells #[.bool false, .slice none 0 0, .slice none 0 0] 32)) := ⟨_, rfl⟩
  have hb0 : Below w.heap.size w W0 := by rw [hW0]; exact below_alloc (below_alloc (below_new _ _) _) _
  have kx : Box W0 (w.heap.size) 30 #[.bool s, .slice A n c] := by rw [hW0]; exact ((Box.last _ _ _ rfl).alloc _).alloc _
  have ky : Box W0 (w.heap.size + 1) 30 #[.bool t, .slice A' n' c'] := by rw [hW0]; exact (Box.last _ _ _ (alloc_size _ _).symm).alloc _
  have kr : Box W0 (w.heap.size + 2) 32 #[.bool false, .slice none 0 0, .slice none 0 0] := by rw [hW0]; exact Box.last _ _ _ (by rw [alloc_size, alloc_size])
  have hs0 : W0.heap.size = w.heap.size + 3 := by rw [hW0, alloc_size, alloc_size, alloc_size]
  go_enter Try.func31, Try.ntmps31
  go_upto_region 1 with fail
  rw [← hW0]
  clear hW0
  obtain ⟨a0, a1⟩ := kx.cells2
  obtain ⟨b0, b1⟩ := ky.cells2
  go_wp2_with fail
  refine (impl_BigIntOk W0 B (by omega) s A n c xs (Rx.below (hb0.mono hB))).mono ?_
  rintro e w1 ⟨rfl, hb1⟩
  have kx1 := kx.below hb1 kx.lt
  have ky1 := ky.below hb1 ky.lt
  have kr1 := kr.below hb1 kr.lt
  have hs1 := hb1.size
  have hb1' := below_then hb0 hb1
  clear a0 a1 b0 b1 kx ky kr hb0 hb1
  by_cases hv : bigB s xs = true
  · rw [hv]
    obtain ⟨a0, a1⟩ := kx1.cells2
    obtain ⟨b0, b1⟩ := ky1.cells2
    go_wp2_with fail
    refine (impl_BigIntOk w1 B (by omega) t A' n' c' ys (Ry.below (hb1'.mono hB))).mono ?_
    rintro e w2 ⟨rfl, hb2⟩
    have kx2 := kx1.below hb2 kx1.lt
    have ky2 := ky1.below hb2 ky1.lt
    have kr2 := kr1.below hb2 kr1.lt
    have hs2 := hb2.size
    have hb2' := below_then hb1' hb2
    clear a0 a1 b0 b1 kx1 ky1 kr1 hb1' hb2
    by_cases hu : bigB t ys = true
    · rw [hu]
      obtain ⟨a0, a1⟩ := kx2.cells2
      obtain ⟨b0, b1⟩ := ky2.cells2
      have R2 := Rx.below (hb2'.mono hB)
      have Q2 := Ry.below (hb2'.mono hB)
      by_cases h0 : 0 < n'
      · have he := notE Ry.1 h0
        have hne : ((n' : Int) == 0) = false := by simp; omega
        cases t
        · have hz := HP.out rfl hv hu
          subst hz
          clear HNO HP HM
          go_wp2_with fail
          refine (impl_reduced w2 B (by omega) s A n c xs R2 hv A' n' c' ys Q2 (bigB_nat hu) he).mono ?_
          rintro e w3 ⟨v3, d3, rfl, p3, hb3⟩
          obtain ⟨A3, c3, K3, k3, rfl, rfl⟩ := p3.form
          have kr3 := kr2.below hb3 kr2.lt
          have hb3' := below_then hb2' hb3
          obtain ⟨z0, z1, z2, z3, z4, z5⟩ := kr3.facts3
          have HO := hide (ret_rat kr3 p3 hb3' (x := (lowR (zv s xs) (natV ys)).1.1) (show w.heap.size ≤ w.heap.size + 2 by omega) (by omega))
          clear kr3 p3 hb3' kx2 ky2 kr2 hb2' hb3 R2 Q2 a0 a1 b0 b1 Rx Ry
          go_wp2_with fail
          refine bodyPost_ret (results_cell_row rfl _ _ (w.heap.size + 2) _ #[.bool (lowR (zv s xs) (natV ys)).1.1, .slice A3 (lowR (zv s xs) (natV ys)).1.2.length c3, .slice K3 (lowR (zv s xs) (natV ys)).2.length k3] (0, 0) _ rfl HO.out.1 Try.underlying32 rfl Try.sizeRat) rfl ?_
          exact ⟨_, _, rfl, HO.out.2.1, HO.out.2.2⟩
        · obtain ⟨hz, hg⟩ := HM.out rfl hv hu
          subst hz
          clear HNO HP HM
          go_wp2_with fail
          refine (impl_BigIntNeg w2 B (by omega) s A n c xs R2).mono ?_
          rintro e w3 ⟨v3, rfl, o3, hb3⟩
          obtain ⟨A3, c3, rfl⟩ := o3.form
          have hs3 := hb3.size
          have hln := negZ_len s xs
          have hlm := negZ_limbs s xs
          have kx3 := kx2.below hb3 kx2.lt
          have ky3 := ky2.below hb3 ky2.lt
          have kr3 := kr2.below hb3 kr2.lt
          have hb3' := below_then hb2' hb3
          obtain ⟨w4, hw4⟩ : ∃ x, x = (w3.setCell ⟨w.heap.size, 0, none⟩ (.bool (negZ s xs).1)).setCell ⟨w.heap.size, 1, none⟩ (.slice A3 (negZ s xs).2.length c3) := ⟨_, rfl⟩
          have kx4 : Box w4 w.heap.size 30 #[.bool (negZ s xs).1, .slice A3 (negZ s xs).2.length c3] := by rw [hw4]; exact kx3.set2 _ _
          have ky4 : Box w4 (w.heap.size + 1) 30 #[.bool true, .slice A' n' c'] := by rw [hw4]; exact (ky3.setv (by omega) 0 _).setv (by omega) 1 _
          have kr4 : Box w4 (w.heap.size + 2) 32 #[.bool false, .slice none 0 0, .slice none 0 0] := by rw [hw4]; exact (kr3.setv (by omega) 0 _).setv (by omega) 1 _
          have o4 : Own w4 w2.heap.size w3.heap.size 3 (.slice A3 (negZ s xs).2.length c3) (negZ s xs).2.length (iv (negZ s xs).2) := by rw [hw4]; exact (o3.setv (.inl (by omega)) 0 _).setv (.inl (by omega)) 1 _
          have hs4 : w4.heap.size = w3.heap.size := by rw [hw4, setCell_size, setCell_size]
          have hb4' : Below w.heap.size w w4 := by rw [hw4]; exact below_set2 hb3' (Nat.le_refl _) _ _
          obtain ⟨y0, y1, y2, y3⟩ := kx3.facts
          clear a0 a1 b0 b1 kx2 ky2 kr2 hb2' R2 Q2 o3 ky3 kr3 hb3'
          go_upto_region 5 with fail
          rw [← hw4]
          clear hw4 y0 y1 y2 y3 kx3
          obtain ⟨a0, a1⟩ := kx4.cells2
          obtain ⟨b0, b1⟩ := ky4.cells2
          have RN := pair_rdI (o4.rdB (Nat.le_refl _)) rfl hln hlm
          have Q4 := pair_up (Ry.below (hb4'.mono hB)) (show B ≤ w3.heap.size by omega)
          go_wp2_with fail
          refine (impl_reduced w4 w3.heap.size (by omega) (negZ s xs).1 A3 _ c3 (negZ s xs).2 RN hg A' n' c' ys Q4 (bigB_nat hu) he).mono ?_
          rintro e w5 ⟨v5, d5, rfl, p5, hb5⟩
          obtain ⟨A5, c5, K5, k5, rfl, rfl⟩ := p5.form
          have kr5 := kr4.below hb5 kr4.lt
          have hb5' := below_then hb4' hb5
          obtain ⟨z0, z1, z2, z3, z4, z5⟩ := kr5.facts3
          have HO := hide (ret_rat kr5 p5 hb5' (x := (lowR (zv (negZ s xs).1 (negZ s xs).2) (natV ys)).1.1) (show w.heap.size ≤ w.heap.size + 2 by omega) (by omega))
          clear kr5 p5 hb5' kx4 ky4 kr4 hb4' hb5 RN Q4 a0 a1 b0 b1 Rx Ry o4
          go_wp2_with fail
          refine bodyPost_ret (results_cell_row rfl _ _ (w.heap.size + 2) _ #[.bool (lowR (zv (negZ s xs).1 (negZ s xs).2) (natV ys)).1.1, .slice A5 (lowR (zv (negZ s xs).1 (negZ s xs).2) (natV ys)).1.2.length c5, .slice K5 (lowR (zv (negZ s xs).1 (negZ s xs).2) (natV ys)).2.length k5] (0, 0) _ rfl HO.out.1 Try.underlying32 rfl Try.sizeRat) rfl ?_
          exact ⟨_, _, rfl, HO.out.2.1, HO.out.2.2⟩
      · have hz := HNO.out (.inr (.inr (isE Ry.1 h0)))
        subst hz
        have hne : ((n' : Int) == 0) = true := by simp; omega
        clear HNO HP HM
        have HO := hide (ret_rat0 (F := 3) kr2 hb2' (show w.heap.size ≤ w.heap.size + 2 by omega))
        obtain ⟨z0, z1, z2, z3, z4, z5⟩ := kr2.facts3
        clear kr2 hb2'
        go_wp2_with fail
        refine bodyPost_ret (results_cell_row rfl _ _ (w.heap.size + 2) _ #[.bool false, .slice none 0 0, .slice none 0 0] (0, 0) _ rfl HO.out.1 Try.underlying32 rfl Try.sizeRat) rfl ?_
        exact ⟨_, _, rfl, HO.out.2.1, HO.out.2.2⟩
    · have hu : bigB t ys = false := by simpa using hu
      have hz := HNO.out (.inr (.inl hu))
      subst hz
      rw [hu]
      clear HNO HP HM
      have HO := hide (ret_rat0 (F := 3) kr2 hb2' (show w.heap.size ≤ w.heap.size + 2 by omega))
      obtain ⟨z0, z1, z2, z3, z4, z5⟩ := kr2.facts3
      clear kr2 hb2'
      go_wp2_with fail
      refine bodyPost_ret (results_cell_row rfl _ _ (w.heap.size + 2) _ #[.bool false, .slice none 0 0, .slice none 0 0] (0, 0) _ rfl HO.out.1 Try.underlying32 rfl Try.sizeRat) rfl ?_
      exact ⟨_, _, rfl, HO.out.2.1, HO.out.2.2⟩
  · have hv : bigB s xs = false := by simpa using hv
    have hz := HNO.out (.inl hv)
    subst hz
    rw [hv]
    clear HNO HP HM
    have HO := hide (ret_rat0 (F := 3) kr1 hb1' (show w.heap.size ≤ w.heap.size + 2 by omega))
    obtain ⟨z0, z1, z2, z3, z4, z5⟩ := kr1.facts3
    clear kr1 hb1'
    go_wp2_with fail
    refine bodyPost_ret (results_cell_row rfl _ _ (w.heap.size + 2) _ #[.bool false, .slice none 0 0, .slice none 0 0] (0, 0) _ rfl HO.out.1 Try.underlying32 rfl Try.sizeRat) rfl ?_
    exact ⟨_, _, rfl, HO.out.2.1, HO.out.2.2⟩
set_option maxHeartbeats 1600000 in
theorem impl_RatOf (w : World) (n m : Int) (hn : (Lit.int .i64 n).wf = true) (hm : (Lit.int .i64 m).wf = true) :
    Calls Try.prog 15 #[.int .i64 n, .int .i64 m] w fun e w' => RatRes 3 w w' e (makeR (capZ n).1 (capZ n).2 (capZ m).1 (capZ m).2) := by
  have l1 := ofZ_len n
  have l2 := ofZ_len m
  have q1 := capZ_limbs n
  have q2 := capZ_limbs m
  obtain ⟨W0, hW0⟩ : ∃ W0, W0 = (w.alloc (.cells #[.bool false, .slice none 0 0, .slice none 0 0] 32)) := ⟨_, rfl⟩
  have hb0 : Below w.heap.size w W0 := by rw [hW0]; exact below_new _ _
  have kr : Box W0 (w.heap.size) 32 #[.bool false, .slice none 0 0, .slice none 0 0] := by rw [hW0]; exact Box.last _ _ _ rfl
  have hs0 : W0.heap.size = w.heap.size + 1 := by rw [hW0, alloc_size]
  have HC1 := hide (impl_BigIntOf W0 W0.heap.size (Nat.le_refl _) n hn)
  have HC2 := hide (fun (W : World) => impl_BigIntOf W W.heap.size (Nat.le_refl _) m hm)
  clear hn hm
  generalize capZ n = N at *
  generalize capZ m = M at *
  go_enter Try.func15, Try.ntmps15
  go_upto_region 1 with fail
  rw [← hW0]
  clear hW0
  go_wp2_with fail
  refine HC1.out.mono ?_
  rintro e w1 ⟨v1, rfl, o1, hb1⟩
  obtain ⟨A1, c1, rfl⟩ := o1.form
  have hs1 := hb1.size
  go_wp2_with fail
  refine (HC2.out w1).mono ?_
  rintro e w2 ⟨v2, rfl, o2, hb2⟩
  obtain ⟨A2, c2, rfl⟩ := o2.form
  have hs2 := hb2.size
  have R1 := RdI.of_own (o1.below hb2 (Nat.le_refl _)) l1 q1
  have R2 := RdI.of_own o2 l2 q2
  have hb2' := below_then (below_then hb0 hb1) hb2
  have kr2 := (kr.below hb1 kr.lt).below hb2 (kr.below hb1 kr.lt).lt
  clear o1 o2 hb1 hb2 hb0 kr HC1 HC2
  go_wp2_with fail
  refine (impl_RatMake w2 w2.heap.size (Nat.le_refl _) N.1 A1 _ c1 N.2 R1 M.1 A2 _ c2 M.2 R2).mono ?_
  rintro e w3 ⟨v3, d3, rfl, p3, hb3⟩
  obtain ⟨A3, c3, K3, k3, rfl, rfl⟩ := p3.form
  have kr3 := kr2.below hb3 kr2.lt
  have hb3' := below_then hb2' hb3
  obtain ⟨z0, z1, z2, z3, z4, z5⟩ := kr3.facts3
  have HO := hide (ret_rat kr3 p3 hb3' (x := (makeR N.1 N.2 M.1 M.2).1.1) (Nat.le_refl _) (by omega))
  clear kr2 p3 hb2' hb3' R1 R2 hb3 kr3
  go_wp2_with fail
  refine bodyPost_ret (results_cell_row rfl _ _ (w.heap.size) _ #[.bool (makeR N.1 N.2 M.1 M.2).1.1, .slice A3 (makeR N.1 N.2 M.1 M.2).1.2.length c3, .slice K3 (makeR N.1 N.2 M.1 M.2).2.length k3] (0, 0) _ rfl HO.out.1 Try.underlying32 rfl Try.sizeRat) rfl ?_
  exact ⟨_, _, rfl, HO.out.2.1, HO.out.2.2⟩
set_option maxHeartbeats 1600000 in
theorem impl_RatFromInt (w : World) (n : Int) (hn : (Lit.int .i64 n).wf = true) :
    Calls Try.prog 8 #[.int .i64 n] w fun e w' => RatRes 3 w w' e (capZ n, [1]) := by
  have l1 := ofZ_len n
  obtain ⟨W0, hW0⟩ : ∃ W0, W0 = (w.alloc (.cells #[.bool false, .slice none 0 0, .slice none 0 0] 32)) := ⟨_, rfl⟩
  have hb0 : Below w.heap.size w W0 := by rw [hW0]; exact below_new _ _
  have kr : Box W0 (w.heap.size) 32 #[.bool false, .slice none 0 0, .slice none 0 0] := by rw [hW0]; exact Box.last _ _ _ rfl
  have hs0 : W0.heap.size = w.heap.size + 1 := by rw [hW0, alloc_size]
  have HC1 := hide (impl_BigIntOf W0 W0.heap.size (Nat.le_refl _) n hn)
  clear hn
  generalize capZ n = N at *
  go_enter Try.func8, Try.ntmps8
  go_upto_region 1 with fail
  rw [← hW0]
  clear hW0
  go_wp2_with fail
  refine HC1.out.mono ?_
  rintro e w1 ⟨v1, rfl, o1, hb1⟩
  obtain ⟨A1, c1, rfl⟩ := o1.form
  have hs1 := hb1.size
  go_wp2_with fail
  refine (impl_NatOf w1 w1.heap.size (Nat.le_refl _) 1 (by decide)).mono ?_
  rintro e w2 ⟨v2, rfl, o2, hb2⟩
  rw [show Int.toNat 1 = 1 from rfl, limbs_one] at o2
  obtain ⟨A2, c2, rfl⟩ := o2.form
  have hs2 := hb2.size
  have hb2' := below_then (below_then hb0 hb1) hb2
  have kr2 := (kr.below hb1 kr.lt).below hb2 (kr.below hb1 kr.lt).lt
  have p2 := Pair.of o1 o2 hb2 (Nat.le_refl _) hs1
  clear o1 o2 hb1 hb2 hb0 kr HC1
  obtain ⟨z0, z1, z2, z3, z4, z5⟩ := kr2.facts3
  have HO := hide (ret_rat kr2 p2 hb2' (x := N.1) (Nat.le_refl _) (by omega))
  clear kr2 p2 hb2'
  go_wp2_with fail
  refine bodyPost_ret (results_cell_row rfl _ _ (w.heap.size) _ #[.bool N.1, .slice A1 N.2.length c1, .slice A2 1 c2] (0, 0) _ rfl HO.out.1 Try.underlying32 rfl Try.sizeRat) rfl ?_
  exact ⟨_, _, rfl, HO.out.2.1, HO.out.2.2⟩
end Go.Proofs.Ytdcceppednngjab
