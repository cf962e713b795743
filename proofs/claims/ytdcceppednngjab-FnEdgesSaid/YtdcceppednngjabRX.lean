/-
  The texts RatI9, put together; each has its own heading below. No condition of ours.
-/
import Derived.Test.YtdcceppednngjabRJ
import Derived.Test.YtdcceppednngjabIA
import Derived.Test.YtdcceppednngjabBX
import Derived.Deep.CutRange
import Derived.Test.YtdcceppednngjabIntI
/-
  The program's fractions: contracts (9): RatNeg, RatCmp, RatSign, RatEqual.
-/


namespace Go.Proofs.Ytdcceppednngjab
open Go.RowKit
set_option linter.unusedVariables false
set_option maxHeartbeats 400000 in
theorem impl_listEq (A A' : Option Addr) (n m c c' : Nat) (xs ys : List Int) (B : Nat) (w : World) (hn : xs.length = n) (hm : ys.length = m) (hx : Rd w B A (iv xs)) (hy : Rd w B A' (iv ys)) (hl : n ≤ maxLen) (hl' : m ≤ maxLen) :
    Calls Try.prog 16 #[.slice A n c, .slice A' m c'] w fun e w' => e = .returned (.bool (eqI xs ys)) ∧ ∃ d, w' = w.drewN d := by
  unfold maxLen at hl hl'
  by_cases hnm : n = m
  · subst hnm
    go_enter Try.func16, Try.ntmps16
    go_wp2
    go_loopw [13] (fun i wr => ∃ k d : Nat, k ≤ n ∧ i = .int .i64 k ∧ wr = w.drewN d ∧ Hid (∀ j (h : j < xs.length) (h' : j < ys.length), j < k → xs[j] = ys[j])) (fun i _ => n - (intOf i).toNat)
    case atStart => exact ⟨0, 0, Nat.zero_le _, rfl, rfl, fun j _ _ h => absurd h (Nat.not_lt_zero _)⟩
    case round =>
      obtain ⟨k, d, hk, rfl, rfl, H⟩ := hrel
      by_cases hlt : k < n
      · obtain ⟨ad, rfl, hb1, hc1⟩ := hx.int (k := k) (by omega)
        obtain ⟨ad', rfl, hb2, hc2⟩ := hy.int (k := k) (by omega)
        have hk0 : (0 : Int) ≤ (k : Int) := Int.natCast_nonneg _
        have hk1 : (k : Int) < (n : Int) := by omega
        by_cases he : xs[k] = ys[k]
        · have HN : Hid (∀ j (h : j < xs.length) (h' : j < ys.length), j < k + 1 → xs[j] = ys[j]) := fun j h h' hj => by
            by_cases e : j = k
            · subst e; exact he
            · exact H.out j h h' (by omega)
          have hq : (xs[k] != ys[k]) = false := by simp [he]
          clear he H
          go_wp2_with fail
          go_quiet (fail)
          go_wp2
          go_roundw
          case rel => exact ⟨k + 1, d + nq, by omega, by go_num, rfl, HN⟩
          case measure => simp [intOf]; omega
        · have HB : Hid (eqI xs ys = false) := decide_eq_false fun e => by subst e; exact he rfl
          have hq : (xs[k] != ys[k]) = true := by simp [he]
          clear he H
          go_wp2_with fail
          go_quiet (fail)
          go_wp2
          go_ret
          exact ⟨ret_bool HB.out.symm, d + nq, World.drewN_drewN _ _ _⟩
      · have HB : Hid (eqI xs ys = true) := decide_eq_true (List.ext_getElem (by omega) fun j h h' => H.out j h h' (by omega))
        clear H
        go_wp2
        go_ret
        exact ⟨ret_bool HB.out.symm, d, rfl⟩
  · have HB : Hid (eqI xs ys = false) := decide_eq_false fun e => by subst e; omega
    have hq : ((n : Int) != (m : Int)) = true := by simp; omega
    clear hnm
    go_enter Try.func16, Try.ntmps16
    go_wp2
    go_ret
    exact ⟨ret_bool HB.out.symm, 0, rfl⟩
set_option maxRecDepth 100000 in
set_option maxHeartbeats 1600000 in
theorem impl_RatEqual (w : World) (B : Nat) (hB : B ≤ w.heap.size) (s : Bool) (A : Option Addr) (n c : Nat) (xs : List Int) (Rx : RdI w B A n xs) (D : Option Addr) (m k : Nat) (ds : List Int) (Rd' : RdI w B D m ds) (t : Bool) (A' : Option Addr) (n' c' : Nat) (ys : List Int) (Ry : RdI w B A' n' ys) (D' : Option Addr) (m' k' : Nat) (es : List Int) (Re' : RdI w B D' m' es) :
    Calls Try.prog 6 #[.agg #[.bool s, .slice A n c, .slice D m k], .agg #[.bool t, .slice A' n' c', .slice D' m' k']] w fun e w' => e = .returned (.bool (sameR s xs ds t ys es)) ∧ Below w.heap.size w w' := by
  obtain ⟨W0, hW0⟩ : ∃ W0, W0 = ((w.alloc (.cells #[.bool s, .slice A n c, .slice D m k] 32)).alloc (.cells #[.bool t, .slice A' n' c', .slice D' m' k'] 32)) := ⟨_, rfl⟩
  have hb0 : Below w.heap.size w W0 := by rw [hW0]; exact below_alloc (below_new _ _) _
  have kx : Box W0 (w.heap.size) 32 #[.bool s, .slice A n c, .slice D m k] := by rw [hW0]; exact (Box.last _ _ _ rfl).alloc _
  have ky : Box W0 (w.heap.size + 1) 32 #[.bool t, .slice A' n' c', .slice D' m' k'] := by rw [hW0]; exact Box.last _ _ _ (alloc_size _ _).symm
  have hs0 : W0.heap.size = w.heap.size + 2 := by rw [hW0, alloc_size, alloc_size]
  have X0 := Rx.below (hb0.mono hB)
  have D0 := Rd'.below (hb0.mono hB)
  have Y0 := Ry.below (hb0.mono hB)
  have E0 := Re'.below (hb0.mono hB)
  have HC1 := hide (impl_listEq A A' n n' c c' xs ys B W0 Rx.1 Ry.1 X0.2.1 Y0.2.1 (by have := Rx.2.2.1; unfold maxLen; omega) (by have := Ry.2.2.1; unfold maxLen; omega))
  have HC2 := hide (fun (W : World) (h : Below W0.heap.size W0 W) => impl_listEq D D' m m' k k' ds es B W Rd'.1 Re'.1 (D0.below (h.mono (by omega))).2.1 (E0.below (h.mono (by omega))).2.1 (by have := Rd'.2.2.1; unfold maxLen; omega) (by have := Re'.2.2.1; unfold maxLen; omega))
  clear X0 D0 Y0 E0 Rx Rd' Ry Re'
  by_cases h1 : (s == t) = true
  · have hz : sameR s xs ds t ys es = (eqI xs ys && eqI ds es) := by rw [sameR, h1]; rfl
    rw [hz]
    clear hz
    by_cases h2 : eqI xs ys = true
    · have HE := hide h2
      rw [h2] at HC1 ⊢
      clear h2
      show Calls _ _ _ _ fun e w' => e = .returned (.bool (eqI ds es)) ∧ _
      go_enter Try.func6, Try.ntmps6
      go_upto_region 1 with fail
      rw [← hW0]
      clear hW0
      obtain ⟨a0, a1, a2⟩ := kx.cells3
      obtain ⟨b0, b1, b2⟩ := ky.cells3
      go_wp2_with fail
      refine HC1.out.mono ?_
      rintro e w1 ⟨rfl, q1, rfl⟩
      have hb1 := below_drewN (Below.refl W0.heap.size W0) q1
      have hb1' := hb0.trans (hb1.mono hb0.size)
      have kx1 := kx.below hb1 kx.lt
      have ky1 := ky.below hb1 ky.lt
      have HC := hide (HC2.out _ hb1)
      clear HC1 HC2 a0 a1 a2 b0 b1 b2 kx ky hb0
      generalize W0.drewN q1 = W1 at *
      obtain ⟨a0, a1, a2⟩ := kx1.cells3
      obtain ⟨b0, b1, b2⟩ := ky1.cells3
      go_wp2_with fail
      refine HC.out.mono ?_
      rintro e w2 ⟨rfl, q2, rfl⟩
      have hb2' := below_drewN hb1' q2
      clear HC
      go_wp2_with fail
      go_ret
      exact ⟨rfl, hb2'⟩
    · have h2 : eqI xs ys = false := by simpa using h2
      rw [h2] at HC1 ⊢
      clear h2
      show Calls _ _ _ _ fun e w' => e = .returned (.bool false) ∧ _
      go_enter Try.func6, Try.ntmps6
      go_upto_region 1 with fail
      rw [← hW0]
      clear hW0
      obtain ⟨a0, a1, a2⟩ := kx.cells3
      obtain ⟨b0, b1, b2⟩ := ky.cells3
      go_wp2_with fail
      refine HC1.out.mono ?_
      rintro e w1 ⟨rfl, q1, rfl⟩
      have hb1' := below_drewN hb0 q1
      clear HC1 HC2
      go_wp2_with fail
      go_ret
      exact ⟨rfl, hb1'⟩
  · have h1 : (s == t) = false := by simpa using h1
    have hz : sameR s xs ds t ys es = false := by rw [sameR, h1]; rfl
    rw [hz]
    clear hz
    go_enter Try.func6, Try.ntmps6
    go_upto_region 1 with fail
    rw [← hW0]
    clear hW0
    obtain ⟨a0, a1, a2⟩ := kx.cells3
    obtain ⟨b0, b1, b2⟩ := ky.cells3
    clear HC1 HC2
    go_wp2_with fail
    go_ret
    exact ⟨rfl, hb0⟩
end Go.Proofs.Ytdcceppednngjab
