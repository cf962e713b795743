/-
  The reference's fractions: contracts (1): l04One, l04List, RatEqual, RatOk.
-/
import Derived.Test.YtiiedfhcandjdaaPB
import Derived.Test.YtiiedfhcandjdaaBigR
import Derived.Test.YtiiedfhcandjdaaNatR9
import Derived.Test.YtiiedfhcandjdaaNatLen
import Derived.Test.YtiiedfhcandjdaaIntI
import Derived.Deep.CutRange
namespace Go.Proofs.Ytiiedfhcandjdaa
open Go.RowKit
set_option linter.unusedVariables false
set_option maxHeartbeats 400000 in
theorem spec_One (w : World) (B : Nat) (hB : B ≤ w.heap.size) (D : Option Addr) (m k : Nat) (ds : List Int) (Rd' : RdI w B D m ds) :
    Calls Try.prog 57 #[.slice D m k] w fun e w' => e = .returned (.bool (decide (ds = [1]))) ∧ w = w' := by
  obtain ⟨hn, hx, _, _⟩ := Rd'
  by_cases h1 : m = 1
  · subst h1
    rw [one_dec hn (by omega)]
    obtain ⟨ad, hA, hb1, hc1⟩ := hx.int (k := 0) (by omega)
    generalize ds[0] = d at *
    subst hA
    have hc2 := hc1
    rw [add_zero'] at hc2
    go_enter Try.func57, Try.ntmps57
    go_wp2_with fail
    go_ret
    exact ⟨rfl, rfl⟩
  · rw [one_no (by omega)]
    have h1' : ((m : Int) == 1) = false := by simp; omega
    clear hx hn
    go_enter Try.func57, Try.ntmps57
    go_wp2_with fail
    go_ret
    exact ⟨rfl, rfl⟩
set_option maxHeartbeats 400000 in
theorem spec_List (A A' : Option Addr) (n m c c' : Nat) (xs ys : List Int) (B : Nat) (w : World) (hn : xs.length = n) (hm : ys.length = m) (hx : Rd w B A (iv xs)) (hy : Rd w B A' (iv ys)) (hl : n ≤ maxLen) (hl' : m ≤ maxLen) :
    Calls Try.prog 85 #[.slice A n c, .slice A' m c'] w fun e w' => e = .returned (.bool (eqI xs ys)) ∧ ∃ d, w' = w.drewN d := by
  unfold maxLen at hl hl'
  by_cases hnm : n = m
  · subst hnm
    go_enter Try.func85, Try.ntmps85
    go_wp2
    go_loopw [13] (fun i wr => ∃ k d : Nat, k ≤ n ∧ i = .int .i64 k ∧ wr = w.drewN d ∧ Hid (∀ j (h : j < xs.length) (h' : j < ys.length), j < k → xs[j] = ys[j])) (fun i _ => n - (intOf i).toNat)
    case atStart => exact ⟨0, 0, Nat.zero_le _, rfl, rfl, fun j _ _ h => absurd h (Nat.not_lt_zero _)⟩
    case round =>
      obtain ⟨k, d, hk, rfl, rfl, H⟩ := hrel
      by_cases hlt : k < n
      · obtain ⟨ad, rfl, hb1, hc1⟩ := hx.int (k := k) (by omega)
        obtain ⟨ad', rfl, hb2, hc2⟩ := hy.int (k := k) (by omega)
        have hk0 : (0 : Int) ≤ (k : Int) := Int.natCast_nonneg _
        have hk1 : (k : Int) < (n : Int) := by omega
        by_cases he : xs[k] = ys[k]
        · have HN : Hid (∀ j (h : j < xs.length) (h' : j < ys.length), j < k + 1 → xs[j] = ys[j]) := fun j h h' hj => by
            by_cases e : j = k
            · subst e; exact he
            · exact H.out j h h' (by omega)
          have hq : (xs[k] != ys[k]) = false := by simp [he]
          clear he H
          go_wp2_with fail
          go_quiet (fail)
          go_wp2
          go_roundw
          case rel => exact ⟨k + 1, d + nq, by omega, by go_num, rfl, HN⟩
          case measure => simp [intOf]; omega
        · have HB : Hid (eqI xs ys = false) := decide_eq_false fun e => by subst e; exact he rfl
          have hq : (xs[k] != ys[k]) = true := by simp [he]
          clear he H
          go_wp2_with fail
          go_quiet (fail)
          go_wp2
          go_ret
          exact ⟨ret_bool HB.out.symm, d + nq, World.drewN_drewN _ _ _⟩
      · have HB : Hid (eqI xs ys = true) := decide_eq_true (List.ext_getElem (by omega) fun j h h' => H.out j h h' (by omega))
        clear H
        go_wp2
        go_ret
        exact ⟨ret_bool HB.out.symm, d, rfl⟩
  · have HB : Hid (eqI xs ys = false) := decide_eq_false fun e => by subst e; omega
    have hq : ((n : Int) != (m : Int)) = true := by simp; omega
    clear hnm
    go_enter Try.func85, Try.ntmps85
    go_wp2
    go_ret
    exact ⟨ret_bool HB.out.symm, 0, rfl⟩
set_option maxHeartbeats 1600000 in
theorem spec_RatEqual (w : World) (B : Nat) (hB : B ≤ w.heap.size) (s : Bool) (A : Option Addr) (n c : Nat) (xs : List Int) (Rx : RdI w B A n xs) (D : Option Addr) (m k : Nat) (ds : List Int) (Rd' : RdI w B D m ds) (t : Bool) (A' : Option Addr) (n' c' : Nat) (ys : List Int) (Ry : RdI w B A' n' ys) (D' : Option Addr) (m' k' : Nat) (es : List Int) (Re' : RdI w B D' m' es) :
    Calls Try.prog 48 #[.agg #[.bool s, .slice A n c, .slice D m k], .agg #[.bool t, .slice A' n' c', .slice D' m' k']] w fun e w' => e = .returned (.bool (sameR s xs ds t ys es)) ∧ Below w.heap.size w w' := by
  obtain ⟨W0, hW0⟩ : ∃ W0, W0 = ((w.alloc (.cells #[.bool s, .slice A n c, .slice D m k] 31)).alloc (.cells #[.bool t, .slice A' n' c', .slice D' m' k'] 31)) := ⟨_, rfl⟩
  have hb0 : Below w.heap.size w W0 := by rw [hW0]; exact below_alloc (below_new _ _) _
  have kx : Box W0 (w.heap.size) 31 #[.bool s, .slice A n c, .slice D m k] := by rw [hW0]; exact (Box.last _ _ _ rfl).alloc _
  have ky : Box W0 (w.heap.size + 1) 31 #[.bool t, .slice A' n' c', .slice D' m' k'] := by rw [hW0]; exact Box.last _ _ _ (alloc_size _ _).symm
  have hs0 : W0.heap.size = w.heap.size + 2 := by rw [hW0, alloc_size, alloc_size]
  have X0 := Rx.below (hb0.mono hB)
  have D0 := Rd'.below (hb0.mono hB)
  have Y0 := Ry.below (hb0.mono hB)
  have E0 := Re'.below (hb0.mono hB)
  have HC1 := hide (spec_List A A' n n' c c' xs ys B W0 Rx.1 Ry.1 X0.2.1 Y0.2.1 (by have := Rx.2.2.1; unfold maxLen; omega) (by have := Ry.2.2.1; unfold maxLen; omega))
  have HC2 := hide (fun (W : World) (h : Below W0.heap.size W0 W) => spec_List D D' m m' k k' ds es B W Rd'.1 Re'.1 (D0.below (h.mono (by omega))).2.1 (E0.below (h.mono (by omega))).2.1 (by have := Rd'.2.2.1; unfold maxLen; omega) (by have := Re'.2.2.1; unfold maxLen; omega))
  clear X0 D0 Y0 E0 Rx Rd' Ry Re'
  by_cases h1 : (s == t) = true
  · have hz : sameR s xs ds t ys es = (eqI xs ys && eqI ds es) := by rw [sameR, h1]; rfl
    rw [hz]
    clear hz
    by_cases h2 : eqI xs ys = true
    · have HE := hide h2
      rw [h2] at HC1 ⊢
      clear h2
      show Calls _ _ _ _ fun e w' => e = .returned (.bool (eqI ds es)) ∧ _
      go_enter Try.func48, Try.ntmps48
      go_upto_region 1 with fail
      rw [← hW0]
      clear hW0
      obtain ⟨a0, a1, a2⟩ := kx.cells3
      obtain ⟨b0, b1, b2⟩ := ky.cells3
      go_wp2_with fail
      refine HC1.out.mono ?_
      rintro e w1 ⟨rfl, q1, rfl⟩
      have hb1 := below_drewN (Below.refl W0.heap.size W0) q1
      have hb1' := hb0.trans (hb1.mono hb0.size)
      have kx1 := kx.below hb1 kx.lt
      have ky1 := ky.below hb1 ky.lt
      have HC := hide (HC2.out _ hb1)
      clear HC1 HC2 a0 a1 a2 b0 b1 b2 kx ky hb0
      generalize W0.drewN q1 = W1 at *
      obtain ⟨a0, a1, a2⟩ := kx1.cells3
      obtain ⟨b0, b1, b2⟩ := ky1.cells3
      go_wp2_with fail
      refine HC.out.mono ?_
      rintro e w2 ⟨rfl, q2, rfl⟩
      have hb2' := below_drewN hb1' q2
      clear HC
      go_wp2_with fail
      go_ret
      exact ⟨rfl, hb2'⟩
    · have h2 : eqI xs ys = false := by simpa using h2
      rw [h2] at HC1 ⊢
      clear h2
      show Calls _ _ _ _ fun e w' => e = .returned (.bool false) ∧ _
      go_enter Try.func48, Try.ntmps48
      go_upto_region 1 with fail
      rw [← hW0]
      clear hW0
      obtain ⟨a0, a1, a2⟩ := kx.cells3
      obtain ⟨b0, b1, b2⟩ := ky.cells3
      go_wp2_with fail
      refine HC1.out.mono ?_
      rintro e w1 ⟨rfl, q1, rfl⟩
      have hb1' := below_drewN hb0 q1
      clear HC1 HC2
      go_wp2_with fail
      go_ret
      exact ⟨rfl, hb1'⟩
  · have h1 : (s == t) = false := by simpa using h1
    have hz : sameR s xs ds t ys es = false := by rw [sameR, h1]; rfl
    rw [hz]
    clear hz
    go_enter Try.func48, Try.ntmps48
    go_upto_region 1 with fail
    rw [← hW0]
    clear hW0
    obtain ⟨a0, a1, a2⟩ := kx.cells3
    obtain ⟨b0, b1, b2⟩ := ky.cells3
    clear HC1 HC2
    go_wp2_with fail
    go_ret
    exact ⟨rfl, hb0⟩
theorem ratB_noR {s : Bool} {xs ds : List Int} (h : bigB s xs = false ∨ natB ds = false ∨ ds.isEmpty = true ∨ ¬ ds.length ≤ 24 ∨ ¬ xs.length ≤ 24) : ratB s xs ds = false := by
  by_cases hr : ratB s xs ds = true
  · have h1 := ratB_short hr
    rcases h with h | h | h | h | h
    · rw [ratB_big hr] at h; cases h
    · rw [ratB_den hr] at h; cases h
    · rw [ratB_pos hr] at h; cases h
    · exact absurd h1.2 h
    · exact absurd h1.1 h
  · simpa using hr
theorem gcdL_limbs {a b : List Int} (ha : natB a = true) (hb : natB b = true) : limbs (Nat.gcd (natV a) (natV b)) = gcdL a b := by rw [gcdL, ha, hb]; rfl
set_option maxHeartbeats 1600000 in
theorem spec_RatOk (w : World) (B : Nat) (hB : B ≤ w.heap.size) (s : Bool) (A : Option Addr) (n c : Nat) (xs : List Int) (Rx : RdI w B A n xs) (D : Option Addr) (m k : Nat) (ds : List Int) (Rd' : RdI w B D m ds) :
    Calls Try.prog 18 #[.agg #[.bool s, .slice A n c, .slice D m k]] w fun e w' => e = .returned (.bool (ratB s xs ds)) ∧ Below w.heap.size w w' := by
  have HNO := hide (ratB_noR (s := s) (xs := xs) (ds := ds))
  have HOK := hide (ratB_ok (s := s) (xs := xs) (ds := ds))
  generalize ratB s xs ds = Z at HNO HOK ⊢
  have hxl := Rx.1
  have hdl := Rd'.1
  obtain ⟨W0, hW0⟩ : ∃ W0, W0 = (w.alloc (.cells #[.bool s, .slice A n c, .slice D m k] 31)) := ⟨_, rfl⟩
  have hb0 : Below w.heap.size w W0 := by rw [hW0]; exact below_new _ _
  have k0 : Box W0 (w.heap.size) 31 #[.bool s, .slice A n c, .slice D m k] := by rw [hW0]; exact Box.last _ _ _ rfl
  have hs0 : W0.heap.size = w.heap.size + 1 := by rw [hW0, alloc_size]
  go_enter Try.func18, Try.ntmps18
  go_upto_region 1 with fail
  rw [← hW0]
  clear hW0
  obtain ⟨a0, a1, a2⟩ := k0.cells3
  go_wp2_with fail
  refine (spec_BigIntOk W0 B (by omega) s A n c xs (Rx.below (hb0.mono hB))).mono ?_
  rintro e w1 ⟨rfl, hb1⟩
  have k1 := k0.below hb1 k0.lt
  have hb1' := below_then hb0 hb1
  have hs1 := hb1.size
  clear a0 a1 a2 k0 hb0 hb1
  obtain ⟨a0, a1, a2⟩ := k1.cells3
  by_cases h1 : bigB s xs = true
  · rw [h1]
    go_wp2_with fail
    refine (spec_NatOk w1 B (by omega) D m k ds (Rd'.below (hb1'.mono hB))).mono ?_
    rintro e w2 ⟨rfl, rfl⟩
    by_cases h2 : natB ds = true
    · rw [h2]
      by_cases h3 : 0 < m
      · have h3' : ((m : Int) == 0) = false := by simp; omega
        have he := notE Rd'.1 h3
        by_cases h4 : m ≤ 24
        · have h4' : ¬ (24 : Int) < (m : Int) := by omega
          by_cases h5 : n ≤ 24
          · have h5' : ¬ (24 : Int) < (n : Int) := by omega
            have hz := HOK.out (by rw [shortB, hxl, hdl, decide_eq_true h5, decide_eq_true h4]; rfl) he h1
            rw [← gcdL_limbs (bigB_nat h1) h2] at hz
            subst hz
            have HG := hide (spec_Gcd w1 B (by omega) A D n m c k xs ds hxl hdl (Rx.below (hb1'.mono hB)).2.1 (Rd'.below (hb1'.mono hB)).2.1 (bigB_nat h1) h2)
            have HGL := hide (show (limbs (Nat.gcd (natV xs) (natV ds))).length ≤ 1048576 by rw [gcdL_limbs (bigB_nat h1) h2]; exact gcdL_len _ _)
            clear HNO HOK h1 h2 he h3 h4 h5 hxl hdl
            go_wp2_with fail
            refine HG.out.mono ?_
            rintro e w3 ⟨v3, rfl, o3, hb3⟩
            obtain ⟨A3, c3, rfl⟩ := o3.form
            have hb3' := below_then hb1' hb3
            have R3 := RdI.of_own o3 HGL.out (limbs_ok _)
            clear a0 a1 a2 k1 o3 hb1' hb3 HG
            go_wp2_with fail
            refine (spec_One w3 w3.heap.size (Nat.le_refl _) A3 _ c3 _ R3).mono ?_
            rintro e w4 ⟨rfl, rfl⟩
            clear R3
            go_wp2_with fail
            go_ret
            exact ⟨rfl, hb3'⟩
          · have h5' : (24 : Int) < (n : Int) := by omega
            have hz := HNO.out (.inr (.inr (.inr (.inr (by omega)))))
            subst hz
            clear HNO HOK
            go_wp2_with fail
            go_ret
            exact ⟨rfl, hb1'⟩
        · have h4' : (24 : Int) < (m : Int) := by omega
          have hz := HNO.out (.inr (.inr (.inr (.inl (by omega)))))
          subst hz
          clear HNO HOK
          go_wp2_with fail
          go_ret
          exact ⟨rfl, hb1'⟩
      · have h3' : ((m : Int) == 0) = true := by simp; omega
        have hz := HNO.out (.inr (.inr (.inl (isE Rd'.1 h3))))
        subst hz
        clear HNO HOK
        go_wp2_with fail
        go_ret
        exact ⟨rfl, hb1'⟩
    · have h2 : natB ds = false := by simpa using h2
      have hz := HNO.out (.inr (.inl h2))
      subst hz
      clear HNO HOK
      rw [h2]
      go_wp2_with fail
      go_ret
      exact ⟨rfl, hb1'⟩
  · have h1 : bigB s xs = false := by simpa using h1
    have hz := HNO.out (.inl h1)
    subst hz
    clear HNO HOK
    rw [h1]
    go_wp2_with fail
    go_ret
    exact ⟨rfl, hb1'⟩
end Go.Proofs.Ytiiedfhcandjdaa
