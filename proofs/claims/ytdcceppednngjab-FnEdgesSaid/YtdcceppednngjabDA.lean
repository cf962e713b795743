/-
  The texts Draw, DrawA, put together; each has its own heading below. No condition of ours.
-/
import Derived.Test.YtdcceppednngjabMem
import Derived.WalkSmall
import Derived.Deep.RegionWith
import Derived.IntWalk
import Derived.OpenShut
/-
  The laws' source of numbers: the cursor's block; what l01Byte, l01New, l31New, l01Below answer: bounds alone.
-/





namespace Go.Proofs.Ytdcceppednngjab
open Go.RowKit
set_option linter.unusedVariables false

/-- the cursor: a block of three cells (the code, the place in it, the state) -/
def CurAt (w : World) (G : Nat) (A : Option Addr) (n c : Nat) : Prop :=
  ∃ (i : Nat) (h : Int), i ≤ n ∧ (Lit.int .i64 h).wf = true ∧ w.heap[G]? = some (.cells #[.slice A n c, .int .i64 i, .int .i64 h] 80 (0, 0))
/-- bytes that are readable below block B -/
def Bytes (w : World) (B : Nat) (A : Option Addr) (n : Nat) : Prop := ∀ k, k < n → ∃ ad x, A = some ad ∧ ad.block < B ∧ w.cell? (ad.add k) = some (.int .u8 x) ∧ 0 ≤ x ∧ x ≤ 255
theorem Bytes.below {w w' : World} {B : Nat} {A : Option Addr} {n : Nat} (h : Bytes w B A n) (hb : Below B w w') : Bytes w' B A n := fun k hk => by
  obtain ⟨ad, x, h1, h2, h3, h4⟩ := h k hk
  exact ⟨ad, x, h1, h2, (hb.cell (by rw [add_block]; exact h2)).trans h3, h4⟩
theorem IsRow.bytes {w : World} {a : Option Addr} {len cap : Nat} {zs : List Int} (h : IsRow .u8 w a len cap zs) : Bytes w w.heap.size a len ∧ len ≤ maxLen := by
  rcases h with ⟨rfl, rfl, rfl, rfl⟩ | ⟨x, rfl, hl, hm, hz, hc, hs⟩
  · exact ⟨fun k hk => absurd hk (Nat.not_lt_zero _), Nat.zero_le _⟩
  · refine ⟨fun k hk => ?_, Nat.le_trans hl hm⟩
    have h1 := hc k (by omega)
    have hlt := World.block_lt_of_cell? w _ h1
    rw [add_block] at hlt
    have hmem : zs.getD k 0 ∈ zs := by
      rw [List.getD, List.getElem?_eq_getElem (show k < zs.length by omega)]
      exact List.getElem_mem _
    have := bounds_u8 (hs _ hmem)
    exact ⟨x, _, rfl, hlt, h1, this.1, this.2⟩
/-- only block G may have changed -/
def Only (G : Nat) (w w' : World) : Prop := w.grownBy w' (some G) ∧ w'.heap.size = w.heap.size
theorem Only.trans {G : Nat} {a b c : World} (h : Only G a b) (k : Only G b c) : Only G a c :=
  ⟨⟨k.1.os.trans h.1.os, k.1.tape.trans h.1.tape, k.1.output.trans h.1.output, Nat.le_trans h.1.size k.1.size, fun i hi hg => (k.1.block i (by have := h.1.size; omega) hg).trans (h.1.block i hi hg)⟩, k.2.trans h.2⟩
theorem Only.below {G B : Nat} {a b : World} (h : Only G a b) (hB : B ≤ G) (hs : B ≤ a.heap.size) : Below B a b :=
  (Below.refl B a).grown h.1 hs fun k hk => by injection hk with hk; omega

theorem only_set {w : World} {G : Nat} {cs : Array Value} {T : TypeId} (h : w.heap[G]? = some (.cells cs T (0, 0))) (j : Nat) (v : Value) :
    (w.setCell ⟨G, j, none⟩ v).heap[G]? = some (.cells (cs.setIfInBounds j v) T (0, 0)) ∧ Only G w (w.setCell ⟨G, j, none⟩ v) :=
  ⟨heap_setCell_same w G j cs T v h, ⟨rfl, rfl, rfl, by simp, fun k _ hk => heap_setCell_other w ⟨G, j, none⟩ k v (fun e => hk (by simp [e]))⟩, by simp⟩
theorem only_drew {w : World} {G : Nat} (n : Nat) : Only G w (w.drewN n) := ⟨⟨rfl, rfl, rfl, Nat.le_refl _, fun _ _ _ => rfl⟩, rfl⟩
theorem Only.cell {G : Nat} {a b : World} (h : Only G a b) {p : Addr} {v : Value} (hp : p.block ≠ G) (hv : a.cell? p = some v) : b.cell? p = some v :=
  h.1.cell hv (by simpa using hp)
/-- the three cells of the cursor's block -/
theorem cur_cells {w : World} {G : Nat} {a b c : Value} {T : TypeId} (h : w.heap[G]? = some (.cells #[a, b, c] T (0, 0))) :
    w.cell? ⟨G, 0, none⟩ = some a ∧ w.cell? ⟨G, 1, none⟩ = some b ∧ w.cell? ⟨G, 2, none⟩ = some c ∧ w.frozen? ⟨G, 1, none⟩ = false ∧ w.frozen? ⟨G, 2, none⟩ = false :=
  ⟨cell_of_row w G 0 _ _ (0, 0) h, cell_of_row w G 1 _ _ (0, 0) h, cell_of_row w G 2 _ _ (0, 0) h, frozen_of_row w G 1 _ _ h, frozen_of_row w G 2 _ _ h⟩

theorem and_mask (x : Int) (m : Nat) (hm : m ≤ 4294967295) : 0 ≤ bits .and .i64 x (m : Int) ∧ bits .and .i64 x (m : Int) ≤ m := by
  have hb : (BitVec.ofInt 64 (m : Int)).toNat = m := by
    rw [BitVec.toNat_ofInt]; omega
  have hle : (BitVec.ofInt 64 x &&& BitVec.ofInt 64 (m : Int)).toNat ≤ m := by
    rw [BitVec.toNat_and, hb]; exact Nat.and_le_right
  have e : bits .and .i64 x (m : Int) = IntKind.i64.wrap ((BitVec.ofInt 64 x &&& BitVec.ofInt 64 (m : Int)).toNat : Int) := rfl
  rw [e, IntWalk.i64_in _ (by omega)]
  omega

set_option maxHeartbeats 1600000 in
theorem l01Byte_more (G i n c : Nat) (ad : Addr) (x h : Int) (w : World) (hn : n ≤ 9223372036854775800) (hi : i < n) (hh : (Lit.int .i64 h).wf = true)
    (hG : w.heap[G]? = some (.cells #[.slice (some ad) n c, .int .i64 i, .int .i64 h] 80 (0, 0))) (hx : w.cell? (ad.add i) = some (.int .u8 x)) (hx0 : 0 ≤ x) (hx1 : x ≤ 255) (hne : ad.block ≠ G) :
    Calls Try.prog 30 #[.pointer (some ⟨G, 0, none⟩)] w fun e w' => ∃ r : Int, e = .returned (.int .i64 r) ∧ 0 ≤ r ∧ r ≤ 255 ∧ CurAt w' G (some ad) n c ∧ Only G w w' := by
  obtain ⟨h0, h1, h2, f1, f2⟩ := cur_cells hG
  have HG := hide hG
  clear hG
  go_enter Try.func30, Try.ntmps30
  go_wp2_with fail
  obtain ⟨hv, hvd⟩ : ∃ hv : Int, hv = wrap64 (wrap64 (h * 6364136223846793005) + 1442695040888963407) := ⟨_, rfl⟩
  have hvw : (Lit.int .i64 hv).wf = true := by rw [hvd]; exact wrap64_wf _
  rw [← hvd]
  clear hvd
  obtain ⟨hG1, hO1⟩ := only_set HG.out 2 (.int .i64 hv)
  have hx1 := hO1.cell (by rw [add_block]; exact hne) hx
  clear HG h0 h1 h2 f1 f2 hx
  generalize w.setCell ⟨G, 2, none⟩ (.int .i64 hv) = W1 at *
  obtain ⟨h0, h1, h2, f1, f2⟩ := cur_cells (a := .slice (some ad) n c) (b := .int .i64 i) (c := .int .i64 hv) hG1
  have HG := hide hG1
  clear hG1 hh
  go_quiet (fail)
  go_wp2_with fail
  obtain ⟨hr0, hr1⟩ : 0 ≤ bits .and .i64 (bits .xor .i64 (hv / 8589934592) (hv / 35184372088832)) 255 ∧ bits .and .i64 (bits .xor .i64 (hv / 8589934592) (hv / 35184372088832)) 255 ≤ 255 := and_mask _ 255 (by omega)
  generalize bits .and .i64 (bits .xor .i64 (hv / 8589934592) (hv / 35184372088832)) 255 = r0 at *
  have hi0 : (0 : Int) ≤ (i : Int) := Int.natCast_nonneg _
  have hi1 : (i : Int) < (n : Int) := by omega
  go_quiet (fail)
  go_wp2_with fail
  go_quiet (fail)
  go_wp2_with fail
  obtain ⟨hf1, hf2⟩ := only_set HG.out 1 (.int .i64 (((i + 1 : Nat) : Int)))
  have hcur : CurAt (W1.setCell ⟨G, 1, none⟩ (.int .i64 (((i + 1 : Nat) : Int)))) G (some ad) n c := ⟨i + 1, hv, by omega, hvw, hf1⟩
  obtain ⟨hm0, hm1⟩ := and_mask (r0 + x) 255 (by omega)
  go_ret
  exact ⟨_, rfl, hm0, hm1, hcur, (hO1.trans (only_drew _)).trans (only_set (w := W1.drewN _) HG.out 1 _).2⟩

set_option maxHeartbeats 1600000 in
theorem l01Byte_none (G i n c : Nat) (A : Option Addr) (h : Int) (w : World) (hn : n ≤ 9223372036854775800) (hi : i = n) (hh : (Lit.int .i64 h).wf = true)
    (hG : w.heap[G]? = some (.cells #[.slice A n c, .int .i64 i, .int .i64 h] 80 (0, 0))) :
    Calls Try.prog 30 #[.pointer (some ⟨G, 0, none⟩)] w fun e w' => ∃ r : Int, e = .returned (.int .i64 r) ∧ 0 ≤ r ∧ r ≤ 255 ∧ CurAt w' G A n c ∧ Only G w w' := by
  subst hi
  obtain ⟨h0, h1, h2, f1, f2⟩ := cur_cells hG
  have HG := hide hG
  clear hG
  go_enter Try.func30, Try.ntmps30
  go_wp2_with fail
  obtain ⟨hv, hvd⟩ : ∃ hv : Int, hv = wrap64 (wrap64 (h * 6364136223846793005) + 1442695040888963407) := ⟨_, rfl⟩
  have hvw : (Lit.int .i64 hv).wf = true := by rw [hvd]; exact wrap64_wf _
  rw [← hvd]
  clear hvd
  obtain ⟨hG1, hO1⟩ := only_set HG.out 2 (.int .i64 hv)
  clear HG h0 h1 h2 f1 f2
  generalize w.setCell ⟨G, 2, none⟩ (.int .i64 hv) = W1 at *
  obtain ⟨h0, h1, h2, f1, f2⟩ := cur_cells (a := .slice A i c) (b := .int .i64 i) (c := .int .i64 hv) hG1
  have HG := hide hG1
  clear hG1 hh
  go_quiet (fail)
  go_wp2_with fail
  obtain ⟨hr0, hr1⟩ : 0 ≤ bits .and .i64 (bits .xor .i64 (hv / 8589934592) (hv / 35184372088832)) 255 ∧ bits .and .i64 (bits .xor .i64 (hv / 8589934592) (hv / 35184372088832)) 255 ≤ 255 := and_mask _ 255 (by omega)
  generalize bits .and .i64 (bits .xor .i64 (hv / 8589934592) (hv / 35184372088832)) 255 = r0 at *
  have hcur : CurAt W1 G A i c := ⟨i, hv, Nat.le_refl _, hvw, HG.out⟩
  go_quiet (fail)
  go_wp2_with fail
  go_ret
  exact ⟨_, rfl, hr0, hr1, hcur, (hO1.trans (only_drew _)).trans (only_drew _)⟩

theorem l01Byte_any (G n c : Nat) (A : Option Addr) (B : Nat) (w : World) (hn : n ≤ 9223372036854775800) (hc : CurAt w G A n c) (hb : Bytes w B A n) (hB : B ≤ G) :
    Calls Try.prog 30 #[.pointer (some ⟨G, 0, none⟩)] w fun e w' => ∃ r : Int, e = .returned (.int .i64 r) ∧ 0 ≤ r ∧ r ≤ 255 ∧ CurAt w' G A n c ∧ Only G w w' := by
  obtain ⟨i, h, hi, hh, hG⟩ := hc
  by_cases hlt : i < n
  · obtain ⟨ad, x, rfl, hab, hx, hx0, hx1⟩ := hb i hlt
    exact l01Byte_more G i n c ad x h w hn hlt hh hG hx hx0 hx1 (by omega)
  · exact l01Byte_none G i n c A h w hn (by omega) hh hG
end Go.Proofs.Ytdcceppednngjab

/-
  The laws' source of numbers, further: l01New, l31New, l01Below: bounds alone.
-/

namespace Go.Proofs.Ytdcceppednngjab
open Go.RowKit
set_option linter.unusedVariables false

theorem CurAt.below {w w' : World} {G n c B : Nat} {A : Option Addr} (h : CurAt w G A n c) (hb : Below B w w') (hG : G < B) : CurAt w' G A n c := by
  obtain ⟨i, x, h1, h2, h3⟩ := h
  exact ⟨i, x, h1, h2, (hb.block G hG).trans h3⟩
theorem CurAt.lt {w : World} {G n c : Nat} {A : Option Addr} (h : CurAt w G A n c) : G < w.heap.size := by
  obtain ⟨i, x, h1, h2, h3⟩ := h
  exact (Array.getElem?_eq_some_iff.1 h3).1
theorem wf_of {x : Int} (h : -9223372036854775808 ≤ x) (h' : x ≤ 9223372036854775807) : (Lit.int .i64 x).wf = true := WalkArith.wf_i64 ⟨h, h'⟩

set_option maxRecDepth 100000 in
set_option maxHeartbeats 800000 in
theorem l01New_any (n c B : Nat) (A : Option Addr) (w : World) (hn : n ≤ 1099511627776) (hb : Bytes w B A n) (hB : B ≤ w.heap.size) :
    Calls Try.prog 29 #[.slice A n c] w fun e w' => e = .returned (.pointer (some ⟨w.heap.size, 0, none⟩)) ∧ CurAt w' w.heap.size A n c ∧ Below w.heap.size w w' ∧ w'.heap.size = w.heap.size + 1 := by
  go_enter Try.func29, Try.ntmps29
  go_wp2_with fail
  go_loop [3, 4] (fun h i => ∃ (k : Nat) (x : Int), k ≤ n ∧ i = .int .i64 k ∧ h = .int .i64 x ∧ 0 ≤ x ∧ x ≤ 2199023255552) (fun _ i => n - (intOf i).toNat)
  case atStart => exact ⟨0, _, Nat.zero_le _, rfl, rfl, by omega, by omega⟩
  case round =>
    obtain ⟨k, x, hk, rfl, rfl, hx0, hx1⟩ := hrel
    by_cases hlt : k < n
    · by_cases h4 : k < 4000
      · obtain ⟨ad, y, hA, hab, hc, hy0, hy1⟩ := hb k hlt
        obtain ⟨hm0, hm1⟩ : 0 ≤ bits .and .i64 (x * 61 + y + 7) 1073741823 ∧ bits .and .i64 (x * 61 + y + 7) 1073741823 ≤ 1073741823 := and_mask _ 1073741823 (by omega)
        clear hb
        subst hA
        go_wp2_with fail
        go_round
        case rel => exact ⟨k + 1, _, by omega, by go_num, rfl, hm0, by omega⟩
        case measure => simp [intOf]; omega
      · have h4' : 4000 ≤ k := by omega
        clear h4 hb
        have hwf := wf_of (x := x) (by omega) (by omega)
        go_wp2_with fail
        go_ret
        exact ⟨rfl, ⟨0, x, Nat.zero_le _, hwf, heap_alloc_new w _⟩, (Below.refl _ _).alloc (Nat.le_refl _) _, by simp⟩
    · clear hb
      have hwf := wf_of (x := x) (by omega) (by omega)
      go_wp2_with fail
      go_ret
      exact ⟨rfl, ⟨0, x, Nat.zero_le _, hwf, heap_alloc_new w _⟩, (Below.refl _ _).alloc (Nat.le_refl _) _, by simp⟩

set_option maxHeartbeats 800000 in
theorem l31New_any (n c B k : Nat) (A : Option Addr) (w : World) (hn : n ≤ 1099511627776) (hk : k ≤ 1000000) (hb : Bytes w B A n) (hB : B ≤ w.heap.size) :
    Calls Try.prog 13 #[.slice A n c, .int .i64 k] w fun e w' => e = .returned (.pointer (some ⟨w.heap.size, 0, none⟩)) ∧ CurAt w' w.heap.size A n c ∧ Below w.heap.size w w' ∧ w'.heap.size = w.heap.size + 1 := by
  go_enter Try.func13, Try.ntmps13
  go_wp2_with fail
  refine (l01New_any n c B A w hn hb hB).mono ?_
  rintro e w1 ⟨rfl, hc1, hb1, hs1⟩
  go_wp2_with fail
  go_loopw [6] (fun i wr => ∃ j : Nat, j ≤ k ∧ i = .int .i64 j ∧ CurAt wr w.heap.size A n c ∧ Below w.heap.size w wr ∧ wr.heap.size = w.heap.size + 1) (fun i _ => k - (intOf i).toNat)
  case atStart => exact ⟨0, Nat.zero_le _, rfl, hc1, hb1, hs1⟩
  case round =>
    clear hc1 hb1 hs1
    obtain ⟨j, hj, rfl, hc, hbl, hs⟩ := hrel
    by_cases hlt : j < k
    · have HS := hide hs
      clear hs
      go_wp2_with fail
      refine (l01Byte_any w.heap.size n c A B _ (by omega) hc (hb.below (hbl.mono hB)) hB).mono ?_
      rintro e w2 ⟨r, rfl, hr0, hr1, hc2, ho⟩
      go_wp2_with fail
      have hs2 : w2.heap.size = w.heap.size + 1 := ho.2.trans HS.out
      have hb2 := hbl.trans (ho.below (Nat.le_refl w.heap.size) (by have := HS.out; omega))
      go_roundw
      case rel => exact ⟨j + 1, by omega, by go_num, hc2, hb2, hs2⟩
      case measure => simp [intOf]; omega
    · have HS := hide hs
      clear hs
      go_wp2_with fail
      go_ret
      exact ⟨rfl, hc, hbl, HS.out⟩

set_option maxHeartbeats 800000 in
theorem l01Below_any (G n c m : Nat) (A : Option Addr) (B : Nat) (w : World) (hn : n ≤ 1099511627776) (hm : 1 ≤ m) (hm2 : m ≤ 1000000000000) (hc : CurAt w G A n c) (hb : Bytes w B A n) (hB : B ≤ G) :
    Calls Try.prog 27 #[.pointer (some ⟨G, 0, none⟩), .int .i64 m] w fun e w' => ∃ r : Nat, e = .returned (.int .i64 r) ∧ r < m ∧ CurAt w' G A n c ∧ Only G w w' := by
  have hBG : B ≤ w.heap.size := by have := hc.lt; omega
  by_cases h256 : m ≤ 256
  · go_enter Try.func27, Try.ntmps27
    go_wp2_with fail
    refine (l01Byte_any G n c A B w (by omega) hc hb hB).mono ?_
    rintro e w1 ⟨r, rfl, hr0, hr1, hc1, ho1⟩
    obtain ⟨r, rfl⟩ : ∃ k : Nat, r = k := ⟨r.toNat, by omega⟩
    go_wp2_with fail
    go_ret
    exact ⟨r % m, ret_int (by simp), Nat.mod_lt _ (by omega), hc1, ho1⟩
  · go_enter Try.func27, Try.ntmps27
    go_wp2_with fail
    refine (l01Byte_any G n c A B w (by omega) hc hb hB).mono ?_
    rintro e w1 ⟨r1, rfl, hr10, hr11, hc1, ho1⟩
    have hb1 := hb.below (ho1.below hB hBG)
    have hs1 := ho1.2
    go_wp2_with fail
    refine (l01Byte_any G n c A B w1 (by omega) hc1 hb1 hB).mono ?_
    rintro e w2 ⟨r2, rfl, hr20, hr21, hc2, ho2⟩
    have hb2 := hb1.below (ho2.below hB (by omega))
    have HS1 := hide hs1
    clear hs1
    have hs2 := hide ho2.2
    go_wp2_with fail
    refine (l01Byte_any G n c A B w2 (by omega) hc2 hb2 hB).mono ?_
    rintro e w3 ⟨r3, rfl, hr30, hr31, hc3, ho3⟩
    have hb3 := hb2.below (ho3.below hB (by have := hs2.out; have := HS1.out; omega))
    go_wp2_with fail
    refine (l01Byte_any G n c A B w3 (by omega) hc3 hb3 hB).mono ?_
    rintro e w4 ⟨r4, rfl, hr40, hr41, hc4, ho4⟩
    have hsum0 : 0 ≤ r1 * 16777216 + r2 * 65536 + r3 * 256 + r4 := by omega
    have hmod := Int.emod_nonneg (r1 * 16777216 + r2 * 65536 + r3 * 256 + r4) (show (m : Int) ≠ 0 by omega)
    have hmod2 := Int.emod_lt_of_pos (r1 * 16777216 + r2 * 65536 + r3 * 256 + r4) (show (0 : Int) < m by omega)
    go_wp2_with fail
    go_ret
    exact ⟨((r1 * 16777216 + r2 * 65536 + r3 * 256 + r4) % (m : Int)).toNat, ret_int (by omega), by omega, hc4, ((ho1.trans ho2).trans ho3).trans ho4⟩
end Go.Proofs.Ytdcceppednngjab
