/-
  The laws' vectors: what the reference's draws make.
-/
import Derived.Test.YtdagomikjblgiaaGreatDA
import Derived.Test.YtdagomikjblgiaaGreatPB
import Derived.Test.YtdagomikjblgiaaGreatLB
import Derived.IntWalk
namespace Go.Proofs.YtdagomikjblgiaaGreat
open Go.RowKit
set_option linter.unusedVariables false
theorem Only.asideS {G : Nat} {a b : World} (h : Only G a b) : Aside G (G + 1) a b :=
  ⟨h.1.os, h.1.tape, h.1.output, h.1.size, fun i hi hd => h.1.block i hi (fun e => by injection e with e; omega)⟩
theorem alloc_asideS (w : World) (o : Obj) (lo hi : Nat) : Aside lo hi w (w.alloc o) := ⟨((Below.refl w.heap.size w).alloc (Nat.le_refl _) o).os, ((Below.refl w.heap.size w).alloc (Nat.le_refl _) o).tape, ((Below.refl w.heap.size w).alloc (Nat.le_refl _) o).output, ((Below.refl w.heap.size w).alloc (Nat.le_refl _) o).size, fun k hk _ => ((Below.refl w.heap.size w).alloc (Nat.le_refl _) o).block k hk⟩
theorem aside_set_newS {w W : World} {lo hi g j : Nat} (h : Aside lo hi w W) (hg : w.heap.size ≤ g) (u : Value) : Aside lo hi w (W.setCell ⟨g, j, none⟩ u) :=
  ⟨h.os, h.tape, h.output, by rw [setCell_size]; exact h.size, fun k hk hd => (Below.heap_setCell _ _ _ _ (show k ≠ g by omega)).trans (h.block k hk hd)⟩
theorem cur_setS {w : World} {G g n c i : Nat} {A : Option Addr} (h : CurAt w G A n c) (hg : G < g) (v : Value) : CurAt (w.setCell ⟨g, i, none⟩ v) G A n c :=
  h.below (B := G + 1) ((Below.refl (G + 1) w).setCell (p := ⟨g, i, none⟩) (show G + 1 ≤ g by omega) v) (Nat.lt_succ_self _)
set_option maxRecDepth 100000 in
set_option maxHeartbeats 1600000 in
theorem l05Vec_s (G n c : Nat) (A : Option Addr) (B : Nat) (w : World) (hn : n ≤ 1099511627776) (hc : CurAt w G A n c) (hb : Bytes w B A n) (hB : B ≤ G) :
    Calls Tryz.prog 14 #[.pointer (some ⟨G, 0, none⟩)] w fun e w' => ∃ x y : Int, e = .returned (.agg #[.int .i64 x, .int .i64 y]) ∧ (x.natAbs ≤ 10 ∧ y.natAbs ≤ 10) ∧ CurAt w' G A n c ∧ Aside G (G + 1) w w' := by
  have hGw := hc.lt
  have hb0 := below_new w (.cells #[.int .i64 0, .int .i64 0] 26)
  have ha0 := alloc_asideS w (.cells #[.int .i64 0, .int .i64 0] 26) G (G + 1)
  have k0 := Box.last w 26 #[.int .i64 0, .int .i64 0] rfl
  have hs0 := alloc_size w (.cells #[.int .i64 0, .int .i64 0] 26)
  have hc0 := hc.below hb0 hGw
  have hbb0 := hb.below (hb0.mono (by omega))
  have HO1 := hide (l01Below_any G n c 21 A B _ hn (by omega) (by omega) hc0 hbb0 hB)
  go_enter Tryz.func14, Tryz.ntmps14
  go_wp2_with fail
  refine HO1.out.mono ?_
  rintro e w1 ⟨r, rfl, hr, hc1, ho1⟩
  have ha1 := ha0.trans (Only.asideS ho1)
  have k1 := k0.aside (Only.asideS ho1) (.inr (by omega))
  have hs1 : w1.heap.size = w.heap.size + 1 := by rw [ho1.2, hs0]
  have hbb1 := hbb0.below (ho1.below hB (by omega))
  have HO2 := hide (l01Below_any G n c 21 A B w1 hn (by omega) (by omega) hc1 hbb1 hB)
  have HS1 := hide hs1
  clear hc hb hb0 ha0 k0 hc0 hbb0 HO1 ho1 hs0 hs1 hbb1 hc1
  go_wp2_with fail
  refine HO2.out.mono ?_
  rintro e w2 ⟨r', rfl, hr', hc2, ho2⟩
  have ha2 := ha1.trans (Only.asideS ho2)
  have k2 := k1.aside (Only.asideS ho2) (.inr (by omega))
  have HE := hide (⟨k2.set2 (.int .i64 ((r : Int) - 10)) (.int .i64 ((r' : Int) - 10)), cur_setS (cur_setS hc2 (show G < w.heap.size by omega) _) (show G < w.heap.size by omega) _, aside_set_newS (aside_set_newS ha2 (Nat.le_refl _) _) (Nat.le_refl _) _⟩ : Box ((w2.setCell ⟨w.heap.size, 0, none⟩ (.int .i64 ((r : Int) - 10))).setCell ⟨w.heap.size, 1, none⟩ (.int .i64 ((r' : Int) - 10))) w.heap.size 26 #[.int .i64 ((r : Int) - 10), .int .i64 ((r' : Int) - 10)] ∧ CurAt ((w2.setCell ⟨w.heap.size, 0, none⟩ (.int .i64 ((r : Int) - 10))).setCell ⟨w.heap.size, 1, none⟩ (.int .i64 ((r' : Int) - 10))) G A n c ∧ Aside G (G + 1) w ((w2.setCell ⟨w.heap.size, 0, none⟩ (.int .i64 ((r : Int) - 10))).setCell ⟨w.heap.size, 1, none⟩ (.int .i64 ((r' : Int) - 10))))
  obtain ⟨t0, t1, f0, f1⟩ := k2.facts
  clear HO2 HS1 k1 k2 ha1 ha2 hc2 ho2
  go_wp2_with fail
  refine bodyPost_ret (results_cell_row rfl _ _ w.heap.size _ #[.int .i64 ((r : Int) - 10), .int .i64 ((r' : Int) - 10)] (0, 0) _ rfl HE.out.1 Tryz.underlying26 rfl Tryz.sizeVec) rfl ?_
  exact ⟨_, _, rfl, ⟨by omega, by omega⟩, HE.out.2⟩
set_option maxRecDepth 100000 in
set_option maxHeartbeats 1600000 in
theorem MakeVec_s (n c B : Nat) (A : Option Addr) (k : Nat) (hk : k ≤ 1000) (w : World) (hn : n ≤ 1099511627776) (hb : Bytes w B A n) (hB : B ≤ w.heap.size) :
    Calls Tryz.prog 5 #[.slice A n c, .int .i64 k] w fun e w' => ∃ x y : Int, e = .returned (.agg #[.int .i64 x, .int .i64 y]) ∧ (x.natAbs ≤ 10 ∧ y.natAbs ≤ 10) ∧ Below w.heap.size w w' := by
  obtain ⟨K, hK⟩ : ∃ K : Nat, K = 3 * k := ⟨_, rfl⟩
  have hKe : 3 * (k : Int) = (K : Int) := by omega
  have hb0 := below_new w (.cells #[.int .i64 0, .int .i64 0] 26)
  have k0 := Box.last w 26 #[.int .i64 0, .int .i64 0] rfl
  have hs0 := alloc_size w (.cells #[.int .i64 0, .int .i64 0] 26)
  have hbb0 := hb.below (hb0.mono hB)
  have HL := hide (l31New_any n c B K A _ hn (by omega) hbb0 (show B ≤ (w.alloc (.cells #[.int .i64 0, .int .i64 0] 26)).heap.size by omega))
  rw [hs0] at HL
  clear hK
  go_enter Tryz.func5, Tryz.ntmps5
  go_wp2_with fail
  refine HL.out.mono ?_
  rintro e w1 ⟨rfl, hc1, hb1, hs1⟩
  have hb1' : Below w.heap.size w w1 := hb0.trans (hb1.mono (Nat.le_succ _))
  have k1 := k0.below hb1 (Nat.lt_succ_self _)
  have HN := hide (l05Vec_s (w.heap.size + 1) n c A B w1 hn hc1 (hb.below (hb1'.mono hB)) (by omega))
  have HS := hide hs1
  clear hs1 hc1 hb1 HL hb hbb0 k0 hb0 hs0
  go_wp2_with fail
  refine HN.out.mono ?_
  rintro e w2 ⟨x, y, rfl, hxy, hc2, ha⟩
  have hs1 := HS.out
  have hs2 := ha.size
  have hb2' := hb1'.trans (ha.below (show w.heap.size ≤ w.heap.size + 1 by omega) (by omega))
  have k2 := k1.aside ha (.inl (Nat.lt_succ_self _))
  have HE := hide (⟨k2.set2 (.int .i64 x) (.int .i64 y), (hb2'.setCell (p := ⟨w.heap.size, 0, none⟩) (Nat.le_refl _) _).setCell (p := ⟨w.heap.size, 1, none⟩) (Nat.le_refl _) _⟩ : Box ((w2.setCell ⟨w.heap.size, 0, none⟩ (.int .i64 x)).setCell ⟨w.heap.size, 1, none⟩ (.int .i64 y)) w.heap.size 26 #[.int .i64 x, .int .i64 y] ∧ Below w.heap.size w ((w2.setCell ⟨w.heap.size, 0, none⟩ (.int .i64 x)).setCell ⟨w.heap.size, 1, none⟩ (.int .i64 y)))
  obtain ⟨t0, t1, f0, f1⟩ := k2.facts
  have HXY := hide hxy
  have x1 : -10 ≤ x ∧ x ≤ 10 := by omega
  have y1 : -10 ≤ y ∧ y ≤ 10 := by omega
  clear hs1 hs2 hb2' k2 k1 hb1' ha hxy HN hc2
  go_wp2_with fail
  refine bodyPost_ret (results_cell_row rfl _ _ w.heap.size _ #[.int .i64 x, .int .i64 y] (0, 0) _ rfl HE.out.1 Tryz.underlying26 rfl Tryz.sizeVec) rfl ?_
  exact ⟨x, y, rfl, HXY.out, HE.out.2⟩
end Go.Proofs.YtdagomikjblgiaaGreat
