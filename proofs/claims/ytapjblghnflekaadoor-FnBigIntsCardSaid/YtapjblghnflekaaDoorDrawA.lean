/-
  The laws' source of numbers, further: l01New, l31New, l01Below: bounds alone.
-/
import Derived.Test.YtapjblghnflekaaDoorDraw
namespace Go.Proofs.YtapjblghnflekaaDoor
open Go.RowKit
set_option linter.unusedVariables false

theorem CurAt.below {w w' : World} {G n c B : Nat} {A : Option Addr} (h : CurAt w G A n c) (hb : Below B w w') (hG : G < B) : CurAt w' G A n c := by
  obtain ⟨i, x, h1, h2, h3⟩ := h
  exact ⟨i, x, h1, h2, (hb.block G hG).trans h3⟩
theorem CurAt.lt {w : World} {G n c : Nat} {A : Option Addr} (h : CurAt w G A n c) : G < w.heap.size := by
  obtain ⟨i, x, h1, h2, h3⟩ := h
  exact (Array.getElem?_eq_some_iff.1 h3).1
theorem wf_of {x : Int} (h : -9223372036854775808 ≤ x) (h' : x ≤ 9223372036854775807) : (Lit.int .i64 x).wf = true := WalkArith.wf_i64 ⟨h, h'⟩

set_option maxRecDepth 100000 in
set_option maxHeartbeats 800000 in
theorem l01New_any (n c B : Nat) (A : Option Addr) (w : World) (hn : n ≤ 1099511627776) (hb : Bytes w B A n) (hB : B ≤ w.heap.size) :
    Calls Tryd.prog 28 #[.slice A n c] w fun e w' => e = .returned (.pointer (some ⟨w.heap.size, 0, none⟩)) ∧ CurAt w' w.heap.size A n c ∧ Below w.heap.size w w' ∧ w'.heap.size = w.heap.size + 1 := by
  go_enter Tryd.func28, Tryd.ntmps28
  go_wp2_with fail
  go_loop [3, 4] (fun h i => ∃ (k : Nat) (x : Int), k ≤ n ∧ i = .int .i64 k ∧ h = .int .i64 x ∧ 0 ≤ x ∧ x ≤ 2199023255552) (fun _ i => n - (intOf i).toNat)
  case atStart => exact ⟨0, _, Nat.zero_le _, rfl, rfl, by omega, by omega⟩
  case round =>
    obtain ⟨k, x, hk, rfl, rfl, hx0, hx1⟩ := hrel
    by_cases hlt : k < n
    · by_cases h4 : k < 4000
      · obtain ⟨ad, y, hA, hab, hc, hy0, hy1⟩ := hb k hlt
        obtain ⟨hm0, hm1⟩ : 0 ≤ bits .and .i64 (x * 61 + y + 7) 1073741823 ∧ bits .and .i64 (x * 61 + y + 7) 1073741823 ≤ 1073741823 := and_mask _ 1073741823 (by omega)
        clear hb
        subst hA
        go_wp2_with fail
        go_round
        case rel => exact ⟨k + 1, _, by omega, by go_num, rfl, hm0, by omega⟩
        case measure => simp [intOf]; omega
      · have h4' : 4000 ≤ k := by omega
        clear h4 hb
        have hwf := wf_of (x := x) (by omega) (by omega)
        go_wp2_with fail
        go_ret
        exact ⟨rfl, ⟨0, x, Nat.zero_le _, hwf, heap_alloc_new w _⟩, (Below.refl _ _).alloc (Nat.le_refl _) _, by simp⟩
    · clear hb
      have hwf := wf_of (x := x) (by omega) (by omega)
      go_wp2_with fail
      go_ret
      exact ⟨rfl, ⟨0, x, Nat.zero_le _, hwf, heap_alloc_new w _⟩, (Below.refl _ _).alloc (Nat.le_refl _) _, by simp⟩

set_option maxHeartbeats 800000 in
theorem l31New_any (n c B k : Nat) (A : Option Addr) (w : World) (hn : n ≤ 1099511627776) (hk : k ≤ 1000000) (hb : Bytes w B A n) (hB : B ≤ w.heap.size) :
    Calls Tryd.prog 12 #[.slice A n c, .int .i64 k] w fun e w' => e = .returned (.pointer (some ⟨w.heap.size, 0, none⟩)) ∧ CurAt w' w.heap.size A n c ∧ Below w.heap.size w w' ∧ w'.heap.size = w.heap.size + 1 := by
  go_enter Tryd.func12, Tryd.ntmps12
  go_wp2_with fail
  refine (l01New_any n c B A w hn hb hB).mono ?_
  rintro e w1 ⟨rfl, hc1, hb1, hs1⟩
  go_wp2_with fail
  go_loopw [6] (fun i wr => ∃ j : Nat, j ≤ k ∧ i = .int .i64 j ∧ CurAt wr w.heap.size A n c ∧ Below w.heap.size w wr ∧ wr.heap.size = w.heap.size + 1) (fun i _ => k - (intOf i).toNat)
  case atStart => exact ⟨0, Nat.zero_le _, rfl, hc1, hb1, hs1⟩
  case round =>
    clear hc1 hb1 hs1
    obtain ⟨j, hj, rfl, hc, hbl, hs⟩ := hrel
    by_cases hlt : j < k
    · have HS := hide hs
      clear hs
      go_wp2_with fail
      refine (l01Byte_any w.heap.size n c A B _ (by omega) hc (hb.below (hbl.mono hB)) hB).mono ?_
      rintro e w2 ⟨r, rfl, hr0, hr1, hc2, ho⟩
      go_wp2_with fail
      have hs2 : w2.heap.size = w.heap.size + 1 := ho.2.trans HS.out
      have hb2 := hbl.trans (ho.below (Nat.le_refl w.heap.size) (by have := HS.out; omega))
      go_roundw
      case rel => exact ⟨j + 1, by omega, by go_num, hc2, hb2, hs2⟩
      case measure => simp [intOf]; omega
    · have HS := hide hs
      clear hs
      go_wp2_with fail
      go_ret
      exact ⟨rfl, hc, hbl, HS.out⟩

set_option maxHeartbeats 800000 in
theorem l01Below_any (G n c m : Nat) (A : Option Addr) (B : Nat) (w : World) (hn : n ≤ 1099511627776) (hm : 1 ≤ m) (hm2 : m ≤ 1000000000000) (hc : CurAt w G A n c) (hb : Bytes w B A n) (hB : B ≤ G) :
    Calls Tryd.prog 25 #[.pointer (some ⟨G, 0, none⟩), .int .i64 m] w fun e w' => ∃ r : Nat, e = .returned (.int .i64 r) ∧ r < m ∧ CurAt w' G A n c ∧ Only G w w' := by
  have hBG : B ≤ w.heap.size := by have := hc.lt; omega
  by_cases h256 : m ≤ 256
  · go_enter Tryd.func25, Tryd.ntmps25
    go_wp2_with fail
    refine (l01Byte_any G n c A B w (by omega) hc hb hB).mono ?_
    rintro e w1 ⟨r, rfl, hr0, hr1, hc1, ho1⟩
    obtain ⟨r, rfl⟩ : ∃ k : Nat, r = k := ⟨r.toNat, by omega⟩
    go_wp2_with fail
    go_ret
    exact ⟨r % m, ret_int (by simp), Nat.mod_lt _ (by omega), hc1, ho1⟩
  · go_enter Tryd.func25, Tryd.ntmps25
    go_wp2_with fail
    refine (l01Byte_any G n c A B w (by omega) hc hb hB).mono ?_
    rintro e w1 ⟨r1, rfl, hr10, hr11, hc1, ho1⟩
    have hb1 := hb.below (ho1.below hB hBG)
    have hs1 := ho1.2
    go_wp2_with fail
    refine (l01Byte_any G n c A B w1 (by omega) hc1 hb1 hB).mono ?_
    rintro e w2 ⟨r2, rfl, hr20, hr21, hc2, ho2⟩
    have hb2 := hb1.below (ho2.below hB (by omega))
    have HS1 := hide hs1
    clear hs1
    have hs2 := hide ho2.2
    go_wp2_with fail
    refine (l01Byte_any G n c A B w2 (by omega) hc2 hb2 hB).mono ?_
    rintro e w3 ⟨r3, rfl, hr30, hr31, hc3, ho3⟩
    have hb3 := hb2.below (ho3.below hB (by have := hs2.out; have := HS1.out; omega))
    go_wp2_with fail
    refine (l01Byte_any G n c A B w3 (by omega) hc3 hb3 hB).mono ?_
    rintro e w4 ⟨r4, rfl, hr40, hr41, hc4, ho4⟩
    have hsum0 : 0 ≤ r1 * 16777216 + r2 * 65536 + r3 * 256 + r4 := by omega
    have hmod := Int.emod_nonneg (r1 * 16777216 + r2 * 65536 + r3 * 256 + r4) (show (m : Int) ≠ 0 by omega)
    have hmod2 := Int.emod_lt_of_pos (r1 * 16777216 + r2 * 65536 + r3 * 256 + r4) (show (0 : Int) < m by omega)
    go_wp2_with fail
    go_ret
    exact ⟨((r1 * 16777216 + r2 * 65536 + r3 * 256 + r4) % (m : Int)).toNat, ret_int (by omega), by omega, hc4, ((ho1.trans ho2).trans ho3).trans ho4⟩
end Go.Proofs.YtapjblghnflekaaDoor
