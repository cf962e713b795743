/-
  The laws' vectors: what the reference's draws make.
-/
import Derived.Test.YtdcceppednngjabDA
import Derived.Test.YtdcceppednngjabPB
import Derived.Test.YtdcceppednngjabLB
import Derived.IntWalk
namespace Go.Proofs.Ytdcceppednngjab
open Go.RowKit
set_option linter.unusedVariables false
theorem Only.asideS {G : Nat} {a b : World} (h : Only G a b) : Aside G (G + 1) a b :=
  ⟨h.1.os, h.1.tape, h.1.output, h.1.size, fun i hi hd => h.1.block i hi (fun e => by injection e with e; omega)⟩
theorem alloc_asideS (w : World) (o : Obj) (lo hi : Nat) : Aside lo hi w (w.alloc o) := ⟨((Below.refl w.heap.size w).alloc (Nat.le_refl _) o).os, ((Below.refl w.heap.size w).alloc (Nat.le_refl _) o).tape, ((Below.refl w.heap.size w).alloc (Nat.le_refl _) o).output, ((Below.refl w.heap.size w).alloc (Nat.le_refl _) o).size, fun k hk _ => ((Below.refl w.heap.size w).alloc (Nat.le_refl _) o).block k hk⟩
theorem aside_set_newS {w W : World} {lo hi g j : Nat} (h : Aside lo hi w W) (hg : w.heap.size ≤ g) (u : Value) : Aside lo hi w (W.setCell ⟨g, j, none⟩ u) :=
  ⟨h.os, h.tape, h.output, by rw [setCell_size]; exact h.size, fun k hk hd => (Below.heap_setCell _ _ _ _ (show k ≠ g by omega)).trans (h.block k hk hd)⟩
theorem cur_setS {w : World} {G g n c i : Nat} {A : Option Addr} (h : CurAt w G A n c) (hg : G < g) (v : Value) : CurAt (w.setCell ⟨g, i, none⟩ v) G A n c :=
  h.below (B := G + 1) ((Below.refl (G + 1) w).setCell (p := ⟨g, i, none⟩) (show G + 1 ≤ g by omega) v) (Nat.lt_succ_self _)
set_option maxRecDepth 100000 in
set_option maxHeartbeats 1600000 in
theorem l05Vec_s (G n c : Nat) (A : Option Addr) (B : Nat) (w : World) (hn : n ≤ 1099511627776) (hc : CurAt w G A n c) (hb : Bytes w B A n) (hB : B ≤ G) :
    Calls Try.prog 26 #[.pointer (some ⟨G, 0, none⟩)] w fun e w' => ∃ x y : Int, e = .returned (.agg #[.int .i64 x, .int .i64 y]) ∧ (x.natAbs ≤ 10 ∧ y.natAbs ≤ 10) ∧ CurAt w' G A n c ∧ Aside G (G + 1) w w' := by
  have hGw := hc.lt
  have hb0 := below_new w (.cells #[.int .i64 0, .int .i64 0] 24)
  have ha0 := alloc_asideS w (.cells #[.int .i64 0, .int .i64 0] 24) G (G + 1)
  have k0 := Box.last w 24 #[.int .i64 0, .int .i64 0] rfl
  have hs0 := alloc_size w (.cells #[.int .i64 0, .int .i64 0] 24)
  have hc0 := hc.below hb0 hGw
  have hbb0 := hb.below (hb0.mono (by omega))
  have HO1 := hide (l01Below_any G n c 21 A B _ hn (by omega) (by omega) hc0 hbb0 hB)
  go_enter Try.func26, Try.ntmps26
  go_wp2_with fail
  refine HO1.out.mono ?_
  rintro e w1 ⟨r, rfl, hr, hc1, ho1⟩
  have ha1 := ha0.trans (Only.asideS ho1)
  have k1 := k0.aside (Only.asideS ho1) (.inr (by omega))
  have hs1 : w1.heap.size = w.heap.size + 1 := by rw [ho1.2, hs0]
  have hbb1 := hbb0.below (ho1.below hB (by omega))
  have HO2 := hide (l01Below_any G n c 21 A B w1 hn (by omega) (by omega) hc1 hbb1 hB)
  have HS1 := hide hs1
  clear hc hb hb0 ha0 k0 hc0 hbb0 HO1 ho1 hs0 hs1 hbb1 hc1
  go_wp2_with fail
  refine HO2.out.mono ?_
  rintro e w2 ⟨r', rfl, hr', hc2, ho2⟩
  have ha2 := ha1.trans (Only.asideS ho2)
  have k2 := k1.aside (Only.asideS ho2) (.inr (by omega))
  have HE := hide (⟨k2.set2 (.int .i64 ((r : Int) - 10)) (.int .i64 ((r' : Int) - 10)), cur_setS (cur_setS hc2 (show G < w.heap.size by omega) _) (show G < w.heap.size by omega) _, aside_set_newS (aside_set_newS ha2 (Nat.le_refl _) _) (Nat.le_refl _) _⟩ : Box ((w2.setCell ⟨w.heap.size, 0, none⟩ (.int .i64 ((r : Int) - 10))).setCell ⟨w.heap.size, 1, none⟩ (.int .i64 ((r' : Int) - 10))) w.heap.size 24 #[.int .i64 ((r : Int) - 10), .int .i64 ((r' : Int) - 10)] ∧ CurAt ((w2.setCell ⟨w.heap.size, 0, none⟩ (.int .i64 ((r : Int) - 10))).setCell ⟨w.heap.size, 1, none⟩ (.int .i64 ((r' : Int) - 10))) G A n c ∧ Aside G (G + 1) w ((w2.setCell ⟨w.heap.size, 0, none⟩ (.int .i64 ((r : Int) - 10))).setCell ⟨w.heap.size, 1, none⟩ (.int .i64 ((r' : Int) - 10))))
  obtain ⟨t0, t1, f0, f1⟩ := k2.facts
  clear HO2 HS1 k1 k2 ha1 ha2 hc2 ho2
  go_wp2_with fail
  refine bodyPost_ret (results_cell_row rfl _ _ w.heap.size _ #[.int .i64 ((r : Int) - 10), .int .i64 ((r' : Int) - 10)] (0, 0) _ rfl HE.out.1 Try.underlying24 rfl Try.sizeVec) rfl ?_
  exact ⟨_, _, rfl, ⟨by omega, by omega⟩, HE.out.2⟩
end Go.Proofs.Ytdcceppednngjab
