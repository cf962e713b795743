/-
  The laws' numbers: what the reference's draws make.
-/
import Derived.Test.YtapjblghnflekaaDoorDrawA
import Derived.Test.YtapjblghnflekaaDoorNatT
namespace Go.Proofs.YtapjblghnflekaaDoor
open Go.RowKit
set_option linter.unusedVariables false

theorem Only.aside {G : Nat} {a b : World} (h : Only G a b) : Aside G (G + 1) a b :=
  ⟨h.1.os, h.1.tape, h.1.output, h.1.size, fun i hi hd => h.1.block i hi (fun e => by injection e with e; omega)⟩
theorem belowAsides {w w' : World} (h : Below w.heap.size w w') (lo hi : Nat) : Aside lo hi w w' := ⟨h.os, h.tape, h.output, h.size, fun k hk _ => h.block k hk⟩
theorem alloc_aside (w : World) (o : Obj) (lo hi : Nat) : Aside lo hi w (w.alloc o) := belowAsides ((Below.refl w.heap.size w).alloc (Nat.le_refl _) o) lo hi
set_option maxHeartbeats 400000 in
theorem l01Pick_any (G n c m cl : Nat) (A Al : Option Addr) (B BL : Nat) (xs : List Int) (w : World) (hn : n ≤ 1099511627776) (hm : 1 ≤ m) (hm2 : m ≤ 1000000) (hxl : xs.length = m) (hc : CurAt w G A n c) (hb : Bytes w B A n) (hB : B ≤ G)
    (hx : Rd w BL Al (iv xs)) (hne : ∀ ad, Al = some ad → ad.block ≠ G) :
    Calls Tryd.prog 45 #[.pointer (some ⟨G, 0, none⟩), .slice Al m cl] w fun e w' => ∃ x, x ∈ xs ∧ e = .returned (.int .i64 x) ∧ CurAt w' G A n c ∧ Only G w w' := by
  go_enter Tryd.func45, Tryd.ntmps45
  go_wp2_with fail
  refine (l01Below_any G n c m A B w hn hm (by omega) hc hb hB).mono ?_
  rintro e w1 ⟨r, rfl, hr, hc1, ho⟩
  obtain ⟨ad, hA, hab, hce⟩ := hx.int (k := r) (by omega)
  have hce1 := ho.cell (by rw [add_block]; exact hne ad hA) hce
  have hr0 : (0 : Int) ≤ (r : Int) := Int.natCast_nonneg _
  have hr1 : (r : Int) < (m : Int) := by omega
  have hmem : xs[r]'(by omega) ∈ xs := List.getElem_mem _
  clear hx hne hce
  subst hA
  go_wp2_with fail
  go_ret
  exact ⟨_, hmem, rfl, hc1, ho⟩
set_option maxRecDepth 100000 in
set_option maxHeartbeats 3200000 in
theorem l02Nat_any (G n c k : Nat) (A : Option Addr) (B : Nat) (w : World) (hn : n ≤ 1099511627776) (hk : k ≤ 100) (hc : CurAt w G A n c) (hb : Bytes w B A n) (hB : B ≤ G) :
    Calls Tryd.prog 27 #[.pointer (some ⟨G, 0, none⟩), .int .i64 k] w fun e w' => ∃ v xs, e = .returned v ∧ w'.ownsRow w.heap.size 3 1 v xs.length (iv xs) ∧ Canon xs ∧ xs.length ≤ k ∧ Aside G (G + 1) w w' := by
  have hGw := hc.lt
  have hown0 := World.ownsRow_made (base := w.heap.size) (e := 3) (size := 1) w #[] 0 (Nat.le_refl _) (by unfold maxLen; omega) rfl
  have hbA := (Below.refl w.heap.size w).alloc (Nat.le_refl _) (.cells #[] 3)
  have has0 := alloc_aside w (.cells #[] 3) G (G + 1)
  have hc0 := hc.below hbA hGw
  have hbb0 := hb.below (hbA.mono (by omega))
  go_enter Tryd.func27, Tryd.ntmps27
  go_wp2_with fail
  generalize w.alloc (.cells #[] 3) = w1 at *
  obtain ⟨K, hK⟩ : ∃ K : Nat, K = k + 1 := ⟨_, rfl⟩
  have hKe : (k : Int) + 1 = (K : Int) := by omega
  rw [hKe]
  have HK := hide hK
  have hK1 : 1 ≤ K := by omega
  have hK2 : K ≤ 1000 := by omega
  clear hK hKe
  refine (l01Below_any G n c K A B w1 hn (by omega) (by omega) hc0 hbb0 hB).mono ?_
  rintro e w2 ⟨j0, rfl, hj0, hc2, ho2⟩
  have hown2 := own_aside hown0 ho2.aside hGw
  have has2 := has0.trans ho2.aside
  clear hown0 has0 hc0 hbb0 hbA hc ho2
  have hj0k : j0 ≤ k := by have := HK.out; omega
  go_wp2_with fail
  go_loopw [5, 6] (fun v i wr => ∃ (j : Nat) (acc : List Int), i = .int .i64 j ∧ wr.ownsRow w.heap.size 3 1 v acc.length (iv acc) ∧ Limbs acc ∧ acc.length + j ≤ k ∧ CurAt wr G A n c ∧ Aside G (G + 1) w wr) (fun _ i _ => (intOf i).toNat)
  case atStart => exact ⟨j0, [], rfl, hown2, Limbs.nil, by simp; omega, hc2, has2⟩
  case round =>
    clear hown2 hc2 has2
    obtain ⟨j, acc, rfl, hown, hL, hlen, hcr, has⟩ := hrel
    have hGr := hcr.lt
    have hbr := hb.below (has.below hB (by omega))
    by_cases hj : 0 < j
    · obtain ⟨jj, rfl⟩ : ∃ jj, j = jj + 1 := ⟨j - 1, by omega⟩
      go_wp2_with fail
      refine (l01Below_any G n c 1000000000 A B wr hn (by omega) (by omega) hcr hbr hB).mono ?_
      rintro e w3 ⟨r1, rfl, hr1, hc3, ho3⟩
      have ha3 := has.trans ho3.aside
      have hown3 := own_aside hown ho3.aside hGw
      have hb3 := hbr.below (ho3.below hB (by omega))
      clear hcr hbr has hown ho3
      go_wp2_with fail
      refine (l01Below_any G n c 1000000000 A B w3 hn (by omega) (by omega) hc3 hb3 hB).mono ?_
      rintro e w4 ⟨r2, rfl, hr2, hc4, ho4⟩
      have ha4 := ha3.trans ho4.aside
      have hown4 := own_aside hown3 ho4.aside hGw
      have hGw4 := hc4.lt
      have hb4 := hb3.below (ho4.below hB (by have := hc3.lt; omega))
      clear hc3 hb3 ha3 hown3 ho4
      obtain ⟨w5, hw5⟩ : ∃ w5, w5 = w4.alloc (.cells (iv [0, 1, 2, 999999999, 500000000, (r1 : Int), (r2 : Int)]).toArray 3) := ⟨_, rfl⟩
      have hk5 : Blk w5 w4.heap.size 3 [0, 1, 2, 999999999, 500000000, (r1 : Int), (r2 : Int)] := by
        rw [hw5]
        exact Blk.of_heap (by show (w4.heap.push _)[w4.heap.size]? = _; rw [Array.getElem?_push_size]) (by unfold maxLen; show 7 ≤ _; omega)
      have hb45 : Below w4.heap.size w4 w5 := by rw [hw5]; exact (Below.refl _ _).alloc (Nat.le_refl _) _
      have ha5 : Aside G (G + 1) w w5 := ha4.trans (belowAsides hb45 _ _)
      have hown5 := own_grown hown4 hb45
      have hc5 := hc4.below hb45 hGw4
      have hb5 := hb4.below (hb45.mono (by omega))
      have hs5 := hb45.size
      have hne : ∀ x ∈ [0, 1, 2, 999999999, 500000000, (r1 : Int), (r2 : Int)], 0 ≤ x ∧ x ≤ 999999999 := fun x hx => by
        simp only [List.mem_cons, List.not_mem_nil, or_false] at hx
        rcases hx with rfl | rfl | rfl | rfl | rfl | rfl | rfl <;> omega
      have HP := hide (l01Pick_any G n c 7 7 A (some ⟨w4.heap.size, 0, none⟩) B (w4.heap.size + 1) [0, 1, 2, 999999999, 500000000, (r1 : Int), (r2 : Int)] w5 hn (by omega) (by omega) rfl hc5 hb5 hB hk5.rd (fun ad e => by injection e with e; subst e; show w4.heap.size ≠ G; omega))
      have HNE := hide hne
      have HW5 : Hid (w5 = w4.alloc (.cells #[.int .i64 0, .int .i64 1, .int .i64 2, .int .i64 999999999, .int .i64 500000000, .int .i64 (r1 : Int), .int .i64 (r2 : Int)] 3)) := hw5
      clear hk5 hb45 hc5 hb5 hne ha4 hown4 hc4 hb4 hw5
      go_wp2_with fail
      rw [← HW5.out]
      refine HP.out.mono ?_
      rintro e w6 ⟨x, hx, rfl, hc6, ho6⟩
      obtain ⟨hx0, hx1⟩ := HNE.out x hx
      have ha6 := ha5.trans ho6.aside
      have hown6 := own_aside hown5 ho6.aside hGw
      have hGw6 := hc6.lt
      have hs6 := ha6.size
      clear HP HNE HW5 hown5 ha5 ho6 hx
      go_wp2_with (at_builtin; refine wpList_append1 Tryd.sliceInt rfl _ _ rfl w6 w.heap.size _ _ _ hown6 rfl #[.int .i64 x] 1 rfl rfl (by simp [Value.oneCell']) (by omega) (by omega) (by omega) ?_; intro v' w7 hown7 hb7)
      have ha7 : Aside G (G + 1) w w7 := ⟨hb7.os.trans ha6.os, hb7.tape.trans ha6.tape, hb7.output.trans ha6.output, Nat.le_trans ha6.size hb7.size, fun k hk hd => (hb7.block k hk).trans (ha6.block k hk hd)⟩
      have hc7 : CurAt w7 G A n c := hc6.below hb7 (by omega)
      go_roundw
      case rel => exact ⟨jj, acc ++ [x], by go_num, by simpa [iv] using hown7, hL.append (Limbs.mk ⟨hx0, hx1⟩ Limbs.nil), by rw [List.length_append, List.length_singleton]; omega, hc7, ha7⟩
      case measure => simp [intOf]
    · obtain ⟨A', c', rfl, _, _, hr⟩ := own_reads hown
      obtain ⟨_, hcc, hcm⟩ := own_nilcap hown
      have HT := hide (spec_Trim wr wr.heap.size A' acc.length c' acc rfl hr hcc hcm)
      have HO := hide hown
      clear hown hr hcc hcm
      go_wp2_with fail
      refine HT.out.mono ?_
      rintro e w' ⟨m, rfl, hm, ht, rfl⟩
      have HO2 := hide (own_trimR HO.out hm ht)
      have hml : (trim acc).length ≤ k := by rw [ht, List.length_take]; omega
      clear ht
      go_wp2_with fail
      go_ret
      exact ⟨_, trim acc, rfl, HO2.out, trim_canon hL, hml, has⟩

end Go.Proofs.YtapjblghnflekaaDoor
