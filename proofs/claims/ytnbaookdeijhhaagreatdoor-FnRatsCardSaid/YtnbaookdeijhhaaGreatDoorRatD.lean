/-
  The laws' fractions: what the reference's draws make.
-/
import Derived.Test.YtnbaookdeijhhaaGreatDoorBigD
import Derived.Test.YtnbaookdeijhhaaGreatDoorPtQ
import Derived.Test.YtnbaookdeijhhaaGreatDoorPtM
import Derived.Test.YtnbaookdeijhhaaGreatDoorRatN
namespace Go.Proofs.YtnbaookdeijhhaaGreatDoor
open Go.RowKit
set_option linter.unusedVariables false
theorem draw_end3 {w W : World} {G g lo hi : Nat} {E F : TypeId} {a b c v0 v1 v2 : Value} {Z : RQ} (k : Box W g E #[a, b, c]) (o : QOwn W lo hi F v0 v1 v2 Z) (ha : Aside G (G + 1) w W) (hg : w.heap.size ≤ g) (hlo : g < lo) (hhi : hi ≤ W.heap.size) :
    Box (((W.setCell ⟨g, 0, none⟩ v0).setCell ⟨g, 1, none⟩ v1).setCell ⟨g, 2, none⟩ v2) g E #[v0, v1, v2] ∧ QOwn (((W.setCell ⟨g, 0, none⟩ v0).setCell ⟨g, 1, none⟩ v1).setCell ⟨g, 2, none⟩ v2) w.heap.size (((W.setCell ⟨g, 0, none⟩ v0).setCell ⟨g, 1, none⟩ v1).setCell ⟨g, 2, none⟩ v2).heap.size F v0 v1 v2 Z ∧ Aside G (G + 1) w (((W.setCell ⟨g, 0, none⟩ v0).setCell ⟨g, 1, none⟩ v1).setCell ⟨g, 2, none⟩ v2) :=
  ⟨((k.set 0 _).set 1 _).set 2 _, (((o.setv (.inl hlo) 0 _).setv (.inl hlo) 1 _).setv (.inl hlo) 2 _).wider (by omega) (by simp only [setCell_size]; exact hhi), aside_set_new (aside_set_new (aside_set_new ha hg _) hg _) hg _⟩
theorem ofQ_low (a : Int) (m : Nat) (ha : a.natAbs ≤ 1000) (hm : 0 < m) (hm1 : m ≤ 1000) : ofQ a m = lowR a m := by
  obtain ⟨b1, z1, _, _⟩ := capZ_back (z := a) (Nat.lt_of_le_of_lt ha (by decide +kernel))
  obtain ⟨b2, _, _, n2⟩ := capZ_back (z := (m : Int)) (Nat.lt_of_le_of_lt (show (m : Int).natAbs ≤ 1000 by omega) (by decide +kernel))
  have s2 : (capZ (m : Int)).1 = false := by
    rw [capZ_sign _ (Nat.lt_of_le_of_lt (show (m : Int).natAbs ≤ 1000 by omega) (by decide +kernel))]; exact decide_eq_false (by omega)
  rw [ofQ, makeR, b1, b2, s2, z1, n2]
  rfl
set_option maxRecDepth 100000 in
set_option maxHeartbeats 1600000 in
theorem l04Few_any (G n c : Nat) (A : Option Addr) (B : Nat) (w : World) (hn : n ≤ 1099511627776) (hc : CurAt w G A n c) (hb : Bytes w B A n) (hB : B ≤ G) :
    Calls Tryz.prog 37 #[.pointer (some ⟨G, 0, none⟩)] w fun e w' => ∃ (a : Int) (m : Nat) (v0 v1 v2 : Value), e = .returned (.agg #[v0, v1, v2]) ∧ QOwn w' w.heap.size w'.heap.size 3 v0 v1 v2 (ofQ a m) ∧ (a.natAbs ≤ 10 ∧ 1 ≤ m ∧ m ≤ 3) ∧ Aside G (G + 1) w w' := by
  have hGw := hc.lt
  have hb0 := below_new w (.cells #[.bool false, .slice none 0 0, .slice none 0 0] 27)
  have ha0 := alloc_aside w (.cells #[.bool false, .slice none 0 0, .slice none 0 0] 27) G (G + 1)
  have k0 := Box.last w 27 #[.bool false, .slice none 0 0, .slice none 0 0] rfl
  have hs0 := alloc_size w (.cells #[.bool false, .slice none 0 0, .slice none 0 0] 27)
  have hc0 := hc.below hb0 hGw
  have hbb0 := hb.below (hb0.mono (by omega))
  have HO1 := hide (l01Below_any G n c 21 A B _ hn (by omega) (by omega) hc0 hbb0 hB)
  go_enter Tryz.func37, Tryz.ntmps37
  go_wp2_with fail
  refine HO1.out.mono ?_
  rintro e w1 ⟨r, rfl, hr, hc1, ho1⟩
  have ha1 := ha0.trans ho1.aside
  have k1 := k0.aside ho1.aside (.inr (by omega))
  have hs1 : w1.heap.size = w.heap.size + 1 := by rw [ho1.2, hs0]
  have hbb1 := hbb0.below (ho1.below hB (by omega))
  clear hc hb hb0 ha0 k0 hc0 hbb0 HO1 ho1
  obtain ⟨w2, hw2⟩ : ∃ w2, w2 = w1.alloc (.cells (iv [1, 1, 1, 2, 3]).toArray 3) := ⟨_, rfl⟩
  have hk2 : Blk w2 w1.heap.size 3 [1, 1, 1, 2, 3] := by
    rw [hw2]
    exact Blk.of_heap (by show (w1.heap.push _)[w1.heap.size]? = _; rw [Array.getElem?_push_size]) (by unfold maxLen; show 5 ≤ _; omega)
  have hb12 : Below w1.heap.size w1 w2 := by rw [hw2]; exact (Below.refl _ _).alloc (Nat.le_refl _) _
  have hs2 : w2.heap.size = w1.heap.size + 1 := by rw [hw2, alloc_size]
  have ha2 : Aside G (G + 1) w w2 := ha1.trans (belowAsides hb12 _ _)
  have k2 := k1.below hb12 k1.lt
  have hc2 := hc1.below hb12 (by omega)
  have hbb2 := hbb1.below (hb12.mono (by omega))
  have HP := hide (l01Pick_any G n c 5 5 A (some ⟨w1.heap.size, 0, none⟩) B (w1.heap.size + 1) [1, 1, 1, 2, 3] w2 hn (by omega) (by omega) rfl hc2 hbb2 hB hk2.rd (fun ad e => by injection e with e; subst e; show w1.heap.size ≠ G; omega))
  have HW2 : Hid (w2 = w1.alloc (.cells #[.int .i64 1, .int .i64 1, .int .i64 1, .int .i64 2, .int .i64 3] 3)) := hw2
  have HS1 := hide hs1
  have HS2 := hide hs2
  clear hk2 hb12 hc2 hbb2 ha1 k1 hc1 hbb1 hw2 hs1 hs2 hs0
  go_wp2_with fail
  rw [← HW2.out]
  refine HP.out.mono ?_
  rintro e w3 ⟨x, hx, rfl, hc3, ho3⟩
  obtain ⟨m, rfl, hm1, hm3⟩ : ∃ m : Nat, x = (m : Int) ∧ 1 ≤ m ∧ m ≤ 3 := by
    simp only [List.mem_cons, List.not_mem_nil, or_false] at hx
    rcases hx with rfl | rfl | rfl | rfl | rfl
    · exact ⟨1, rfl, by omega, by omega⟩
    · exact ⟨1, rfl, by omega, by omega⟩
    · exact ⟨1, rfl, by omega, by omega⟩
    · exact ⟨2, rfl, by omega, by omega⟩
    · exact ⟨3, rfl, by omega, by omega⟩
  have ha3 := ha2.trans ho3.aside
  have k3 := k2.aside ho3.aside (.inr (by omega))
  have HS3 : Hid (w3.heap.size = w.heap.size + 2) := by show _ = _; rw [ho3.2, HS2.out, HS1.out]
  have HM := hide (spec_ofQ w3 ((r : Int) - 10) m (wf_of (by omega) (by omega)) (wf_of (by omega) (by omega)))
  clear HP HW2 HS1 HS2 ha2 k2 hc3 ho3 hx
  go_wp2_with fail
  refine HM.out.mono ?_
  rintro e w4 ⟨v0, v1, v2, rfl, o4, hb4⟩
  obtain ⟨zb, zA, zn, zc, zD, zm, zk, rfl, rfl, rfl⟩ := o4.cut
  have ha4 := aside_below ha3 hb4
  have k4 := k3.below hb4 k3.lt
  have hs3 := HS3.out
  have HE := hide (draw_end3 k4 o4 ha4 (Nat.le_refl _) (by omega) (Nat.le_refl _))
  obtain ⟨t0, t1, t2, f0, f1, f2⟩ := k4.facts3
  clear HM ha3 k3 o4 ha4 k4 hb4 hs3
  go_wp2_with fail
  refine bodyPost_ret (results_cell_row rfl _ _ w.heap.size _ #[.bool zb, .slice zA zn zc, .slice zD zm zk] (0, 0) _ rfl HE.out.1 Tryz.underlying27 rfl Tryz.sizeRat) rfl ?_
  exact ⟨_, m, _, _, _, rfl, HE.out.2.1, ⟨by omega, hm1, hm3⟩, HE.out.2.2⟩
/-- a small fraction of one's own -/
def FewRes (TI : TypeId) (w w' : World) (e : Ending) : Prop :=
  ∃ (a : Int) (m : Nat) (v0 v1 v2 : Value), e = .returned (.agg #[v0, v1, v2]) ∧ QOwn w' w.heap.size w'.heap.size TI v0 v1 v2 (lowR a m) ∧ (a.natAbs ≤ 10 ∧ 1 ≤ m ∧ m ≤ 3) ∧ Below w.heap.size w w'
set_option maxRecDepth 100000 in
set_option maxHeartbeats 1600000 in
theorem MakeRat_any (n c B : Nat) (A : Option Addr) (k : Nat) (hk : k ≤ 1000) (w : World) (hn : n ≤ 1099511627776) (hb : Bytes w B A n) (hB : B ≤ w.heap.size) :
    Calls Tryz.prog 7 #[.slice A n c, .int .i64 k] w fun e w' => FewRes 3 w w' e := by
  obtain ⟨K, hK⟩ : ∃ K : Nat, K = 3 * k := ⟨_, rfl⟩
  have hKe : 3 * (k : Int) = (K : Int) := by omega
  have hb0 := below_new w (.cells #[.bool false, .slice none 0 0, .slice none 0 0] 27)
  have k0 := Box.last w 27 #[.bool false, .slice none 0 0, .slice none 0 0] rfl
  have hs0 := alloc_size w (.cells #[.bool false, .slice none 0 0, .slice none 0 0] 27)
  have hbb0 := hb.below (hb0.mono hB)
  have HL := hide (l31New_any n c B K A _ hn (by omega) hbb0 (show B ≤ (w.alloc (.cells #[.bool false, .slice none 0 0, .slice none 0 0] 27)).heap.size by omega))
  rw [hs0] at HL
  clear hK
  go_enter Tryz.func7, Tryz.ntmps7
  go_wp2_with fail
  refine HL.out.mono ?_
  rintro e w1 ⟨rfl, hc1, hb1, hs1⟩
  have hb1' : Below w.heap.size w w1 := hb0.trans (hb1.mono (Nat.le_succ _))
  have k1 := k0.below hb1 (Nat.lt_succ_self _)
  have HN := hide (l04Few_any (w.heap.size + 1) n c A B w1 hn hc1 (hb.below (hb1'.mono hB)) (by omega))
  have HS := hide hs1
  clear hs1 hc1 hb1 HL hb hbb0 k0 hb0 hs0
  go_wp2_with fail
  refine HN.out.mono ?_
  rintro e w2 ⟨a, m, v0, v1, v2, rfl, o2, hlt, ha⟩
  obtain ⟨zb, zA, zn, zc, zD, zm, zk, rfl, rfl, rfl⟩ := o2.cut
  rw [ofQ_low a m (by omega) (by omega) (by omega)] at o2
  have hs1 := HS.out
  have hs2 := ha.size
  have hb2' := hb1'.trans (ha.below (show w.heap.size ≤ w.heap.size + 1 by omega) (by omega))
  have k2 := k1.aside ha (.inl (Nat.lt_succ_self _))
  have HE := hide (ret_q k2 o2 hb2' (Nat.le_refl _) (by omega) (Nat.le_refl _) (.inl (by omega)))
  obtain ⟨t0, t1, t2, f0, f1, f2⟩ := k2.facts3
  have HLT := hide hlt
  clear hs1 hs2 hb2' k2 k1 o2 hb1' ha hlt HN
  go_wp2_with fail
  refine bodyPost_ret (results_cell_row rfl _ _ w.heap.size _ #[.bool zb, .slice zA zn zc, .slice zD zm zk] (0, 0) _ rfl HE.out.1 Tryz.underlying27 rfl Tryz.sizeRat) rfl ?_
  exact ⟨a, m, _, _, _, rfl, HE.out.2.1, HLT.out, HE.out.2.2⟩
end Go.Proofs.YtnbaookdeijhhaaGreatDoor
