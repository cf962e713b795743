/-
  The draw of a valid edge.
-/
import Derived.Test.YtdcceppednngjabVecD
import Derived.Test.YtdcceppednngjabED
import Derived.Test.YtdcceppednngjabFreT
import Derived.Deep.RegionHeld3
import Derived.Deep.CutRange
import Derived.Sort.AtCall
namespace Go.Proofs.Ytdcceppednngjab
open Go.RowKit
set_option linter.unusedVariables false
set_option maxHeartbeats 400000 in
theorem l01Once_s (G n c m : Nat) (A : Option Addr) (B : Nat) (w : World) (hn : n ≤ 1099511627776) (hm : 1 ≤ m) (hm2 : m ≤ 1000000000000) (hc : CurAt w G A n c) (hb : Bytes w B A n) (hB : B ≤ G) :
    Calls Try.prog 28 #[.pointer (some ⟨G, 0, none⟩), .int .i64 m] w fun e w' => ∃ b, e = .returned (.bool b) ∧ CurAt w' G A n c ∧ Only G w w' := by
  have HO := hide (l01Below_any G n c m A B w hn hm hm2 hc hb hB)
  clear hc hb
  go_enter Try.func28, Try.ntmps28
  go_wp2_with fail
  refine HO.out.mono ?_
  rintro e w1 ⟨r, rfl, hr, hc1, ho⟩
  have HC := hide hc1
  have HO1 := hide ho
  clear hc1 ho HO
  go_wp2_with fail
  go_ret
  exact ⟨_, rfl, HC.out, HO1.out⟩
theorem below_asideE {w u : World} {lo hi : Nat} (h : Below w.heap.size w u) : Aside lo hi w u := ⟨h.os, h.tape, h.output, h.size, fun k hk _ => h.block k hk⟩
theorem cur_set6E {w : World} {G g n c : Nat} {A : Option Addr} (h : CurAt w G A n c) (hg : G < g) (v0 v1 v2 v3 v4 v5 : Value) : CurAt (set6E w g v0 v1 v2 v3 v4 v5) G A n c :=
  cur_setS (cur_setS (cur_setS (cur_setS (cur_setS (cur_setS h hg v0) hg v1) hg v2) hg v3) hg v4) hg v5
theorem aside_set6E {w W : World} {lo hi g : Nat} (h : Aside lo hi w W) (hg : w.heap.size ≤ g) (v0 v1 v2 v3 v4 v5 : Value) : Aside lo hi w (set6E W g v0 v1 v2 v3 v4 v5) :=
  aside_set_newS (aside_set_newS (aside_set_newS (aside_set_newS (aside_set_newS (aside_set_newS h hg v0) hg v1) hg v2) hg v3) hg v4) hg v5
set_option maxRecDepth 100000 in
set_option maxHeartbeats 6400000 in
theorem l12Edge_s (G n c : Nat) (A : Option Addr) (B : Nat) (w : World) (hn : n ≤ 1099511627776) (hc : CurAt w G A n c) (hb : Bytes w B A n) (hB : B ≤ G) :
    Calls Try.prog 12 #[.pointer (some ⟨G, 0, none⟩)] w fun e w' => ∃ (x y u v : Int) (l : Bool), e = .returned (.agg #[.int .i64 x, .int .i64 y, .int .i64 u, .int .i64 v, .int .i64 0, .bool l]) ∧ edgeB x y u v = true ∧ CurAt w' G A n c ∧ Aside G (G + 1) w w' := by
  have hGw := hc.lt
  obtain ⟨W0, hW0⟩ : ∃ W0, W0 = w.alloc (.cells #[.int .i64 0, .int .i64 0, .int .i64 0, .int .i64 0, .int .i64 0, .bool false] 26) := ⟨_, rfl⟩
  have hb0 : Below w.heap.size w W0 := by rw [hW0]; exact below_new _ _
  have ha0 : Aside G (G + 1) w W0 := below_asideE hb0
  have kr : Box W0 w.heap.size 26 #[.int .i64 0, .int .i64 0, .int .i64 0, .int .i64 0, .int .i64 0, .bool false] := by rw [hW0]; exact Box.last _ _ _ rfl
  have hs0 : W0.heap.size = w.heap.size + 1 := by rw [hW0, alloc_size]
  have HV := hide (l05Vec_s G n c A B W0 hn (hc.below hb0 hGw) (hb.below (hb0.mono (by omega))) hB)
  go_enter Try.func12, Try.ntmps12
  go_upto_region 1 with fail
  rw [← hW0]
  clear hW0
  go_wp2_with fail
  refine HV.out.mono ?_
  rintro e w1 ⟨x, y, rfl, ⟨hx, hy⟩, hc1, ha1⟩
  have hs1 := ha1.size
  obtain ⟨w2, hw2⟩ : ∃ w2, w2 = w1.alloc (.cells #[.int .i64 x, .int .i64 y] 24) := ⟨_, rfl⟩
  have hb2 : Below w1.heap.size w1 w2 := by rw [hw2]; exact below_new _ _
  have hs2 : w2.heap.size = w1.heap.size + 1 := by rw [hw2, alloc_size]
  have ka : Box w2 w1.heap.size 24 #[.int .i64 x, .int .i64 y] := by rw [hw2]; exact Box.last _ _ _ rfl
  have HA2 := hide ((ha0.trans ha1).trans (below_asideE hb2))
  have kr := (kr.aside ha1 (.inr (by omega))).below hb2 (by omega)
  have hc2 := hc1.below hb2 (by omega)
  have hby := hb.below (HA2.out.below hB (by omega))
  go_upto_region 2 with fail
  rw [← hw2]
  clear hw2 hc1 ha1 hb2 ha0 hb0 HV hc hb
  have HBa := hide ka
  have HBr := hide kr
  have hx1 : -10 ≤ x ∧ x ≤ 10 := by omega
  have HS0 : Hid (Aside G (G + 1) w2 w2.drew) := below_asideE (Below.refl _ _).drew
  have HC0 : Hid (CurAt w2.drew G A n c) := hc2.below (Below.refl w2.heap.size _).drew (by omega)
  have HBY := hide (fun (W : World) (h : Aside G (G + 1) w2 W) => hby.below (h.below hB (show B ≤ w2.heap.size by omega)))
  have HKS := hide (fun (W : World) (h : Aside G (G + 1) w2 W) => (⟨(HBa.out.aside h (.inr (by omega))).cell 0, (HBa.out.aside h (.inr (by omega))).cell 1⟩ : W.cell? ⟨w1.heap.size, 0, none⟩ = some (.int .i64 x) ∧ W.cell? ⟨w1.heap.size, 1, none⟩ = some (.int .i64 y)))
  obtain ⟨ya0, ya1⟩ := ka.cells2
  clear ka kr hc2 hby
  refine wp_region_held_drew (S := (fun w' => w'.cell? ⟨w1.heap.size, 0, none⟩ = some (.int .i64 x) ∧ w'.cell? ⟨w1.heap.size, 1, none⟩ = some (.int .i64 y))) (by kernel_rfl) (HKS.out _ HS0.out) (fun hHeld => ?_)
  show wpAnyH _ _ _ _ _ 15 _ _ _
  refine takeTF (i := 0) (t := 6) (v := ?_) rfl (by kernel_rfl) (by kernel_rfl) (by kernel_rfl) (fun _ _ _ h => h) rfl (by rfl) ?_ hHeld ?_
  rotate_left 1
  · intro w hSw; (try dsimp only at hSw); go_simp; with_reducible rfl
  simp only [List.setIfInBounds_toArray, List.set_cons_zero, List.set_cons_succ]
  refine takeTF (i := 1) (t := 7) (v := ?_) rfl (by kernel_rfl) (by kernel_rfl) (by kernel_rfl) (fun _ _ _ h => h) rfl (by rfl) ?_ hHeld ?_
  rotate_left 1
  · intro w hSw; (try dsimp only at hSw); go_simp; with_reducible rfl
  simp only [List.setIfInBounds_toArray, List.set_cons_zero, List.set_cons_succ]
  refine takeTF (i := 2) (t := 8) (v := ?_) rfl (by kernel_rfl) (by kernel_rfl) (by kernel_rfl) (fun _ _ _ h => h) rfl (by rfl) ?_ hHeld ?_
  rotate_left 1
  · intro w hSw; (try dsimp only at hSw); go_simp; with_reducible rfl
  simp only [List.setIfInBounds_toArray, List.set_cons_zero, List.set_cons_succ]
  refine takeTF (i := 3) (t := 9) (v := .int .i64 (x + 1)) rfl (by kernel_rfl) (by kernel_rfl) (by kernel_rfl) (fun _ _ _ h => h) rfl (by rfl) ?_ hHeld ?_
  · intro w hSw; (try dsimp only at hSw); go_simp; first | (with_reducible rfl) | (rw [IntWalk.i64_in _ (by omega)]; done) | (rw [IntWalk.i64_in _ (by omega)]; rfl)
  refine takeTF (i := 4) (t := 10) (v := ?_) rfl (by kernel_rfl) (by kernel_rfl) (by kernel_rfl) (fun _ _ _ h => h) rfl (by rfl) ?_ hHeld ?_
  rotate_left 1
  · intro w hSw; (try dsimp only at hSw); go_simp; with_reducible rfl
  simp only [List.setIfInBounds_toArray, List.set_cons_zero, List.set_cons_succ]
  refine takeTF (i := 7) (t := 13) (v := ?_) rfl (by kernel_rfl) (by kernel_rfl) (by kernel_rfl) (fun _ _ _ h => h) rfl (by rfl) ?_ hHeld ?_
  rotate_left 1
  · intro w hSw; (try dsimp only at hSw); go_simp; with_reducible rfl
  simp only [List.setIfInBounds_toArray, List.set_cons_zero, List.set_cons_succ]
  refine takeTF (i := 11) (t := 17) (v := ?_) rfl (by kernel_rfl) (by kernel_rfl) (by kernel_rfl) (fun _ _ _ h => h) rfl (by rfl) ?_ hHeld ?_
  rotate_left 1
  · intro w hSw; (try dsimp only at hSw); go_simp; with_reducible rfl
  simp only [List.setIfInBounds_toArray, List.set_cons_zero, List.set_cons_succ]
  refine wpAnyH_ready (rs := [5]) (by kernel_rfl) (by simp) ?_
  refine AllReadyH.cons rfl (fun K hK => ?_) AllReadyH.nil
  simp only [List.getElem_toArray, List.getElem_cons_succ, List.getElem_cons_zero]
  go_simp
  (have HX := HS0.out; refine (l01Below_any G n c 9 A B _ hn (by omega) (by omega) HC0.out (HBY.out _ HX) hB).mono ?_; rintro e u1 ⟨r1, rfl, hr1, hc1, ho1⟩; have HS1 := hide (HX.trans (Only.asideS ho1)); have HC1 := hide hc1; clear HX hc1 ho1)
  go_wp2_with fail
  refine hK.out _ _ (HKS.out _ HS1.out) (fun hHeld => ?_)
  clear hK K
  refine takeTF (i := 6) (t := 12) (v := .int .i64 (x + 1 + (r1 : Int))) rfl (by kernel_rfl) (by kernel_rfl) (by kernel_rfl) (fun _ _ _ h => h) rfl (by rfl) ?_ hHeld ?_
  · intro w hSw; (try dsimp only at hSw); go_simp; first | (with_reducible rfl) | (rw [IntWalk.i64_in _ (by omega)]; done) | (rw [IntWalk.i64_in _ (by omega)]; rfl)
  refine wpAnyH_ready (rs := [8]) (by kernel_rfl) (by simp) ?_
  refine AllReadyH.cons rfl (fun K hK => ?_) AllReadyH.nil
  simp only [List.getElem_toArray, List.getElem_cons_succ, List.getElem_cons_zero]
  go_simp
  (have HX := HS1.out; refine (l01Below_any G n c 15 A B _ hn (by omega) (by omega) HC1.out (HBY.out _ HX) hB).mono ?_; rintro e u2 ⟨r2, rfl, hr2, hc2, ho2⟩; have HS2 := hide (HX.trans (Only.asideS ho2)); have HC2 := hide hc2; clear HX hc2 ho2)
  go_wp2_with fail
  refine hK.out _ _ (HKS.out _ HS2.out) (fun hHeld => ?_)
  clear hK K
  refine takeTF (i := 9) (t := 15) (v := .int .i64 ((r2 : Int) - 7)) rfl (by kernel_rfl) (by kernel_rfl) (by kernel_rfl) (fun _ _ _ h => h) rfl (by rfl) ?_ hHeld ?_
  · intro w hSw; (try dsimp only at hSw); go_simp; first | (with_reducible rfl) | (rw [IntWalk.i64_in _ (by omega)]; done) | (rw [IntWalk.i64_in _ (by omega)]; rfl)
  refine takeTF (i := 10) (t := 16) (v := ?_) rfl (by kernel_rfl) (by kernel_rfl) (by kernel_rfl) (fun _ _ _ h => h) rfl (by rfl) ?_ hHeld ?_
  rotate_left 1
  · intro w hSw; (try dsimp only at hSw); go_simp; with_reducible rfl
  simp only [List.setIfInBounds_toArray, List.set_cons_zero, List.set_cons_succ]
  refine wpAnyH_ready (rs := [12]) (by kernel_rfl) (by simp) ?_
  refine AllReadyH.cons rfl (fun K hK => ?_) AllReadyH.nil
  simp only [List.getElem_toArray, List.getElem_cons_succ, List.getElem_cons_zero]
  go_simp
  (have HX := HS2.out; refine (l01Once_s G n c 2 A B _ hn (by omega) (by omega) HC2.out (HBY.out _ HX) hB).mono ?_; rintro e u3 ⟨l, rfl, hc3, ho3⟩; have HS3 := hide (HX.trans (Only.asideS ho3)); have HC3 := hide hc3; clear HX hc3 ho3)
  go_wp2_with fail
  refine hK.out _ _ (HKS.out _ HS3.out) (fun hHeld => ?_)
  clear hK K
  refine takeTF (i := 13) (t := 19) (v := ?_) rfl (by kernel_rfl) (by kernel_rfl) (by kernel_rfl) (fun _ _ _ h => h) rfl (by rfl) ?_ hHeld ?_
  rotate_left 1
  · intro w hSw; (try dsimp only at hSw); go_simp; with_reducible rfl
  simp only [List.setIfInBounds_toArray, List.set_cons_zero, List.set_cons_succ]
  refine wpAnyH_ready (rs := [14]) (by kernel_rfl) (by simp) ?_
  refine AllReadyH.cons rfl (fun K hK => ?_) AllReadyH.nil
  simp only [List.getElem_toArray, List.getElem_cons_succ, List.getElem_cons_zero]
  have kr3 := HBr.out.aside HS3.out (.inr (by omega))
  obtain ⟨⟨t0, t1, t2, t3, t4, t5⟩, f0, f1, f2, f3, f4, f5⟩ := kr3.facts6
  have hz3 := HS3.out.size
  have HE := hide (⟨kr3.set6E, cur_set6E HC3.out (show G < w.heap.size by omega) _ _ _ _ _ _, aside_set6E (HA2.out.trans HS3.out) (Nat.le_refl _) _ _ _ _ _ _⟩ : Box (set6E u3 w.heap.size (.int .i64 x) (.int .i64 y) (.int .i64 (x + 1 + (r1 : Int))) (.int .i64 ((r2 : Int) - 7)) (.int .i64 0) (.bool l)) w.heap.size 26 #[.int .i64 x, .int .i64 y, .int .i64 (x + 1 + (r1 : Int)), .int .i64 ((r2 : Int) - 7), .int .i64 0, .bool l] ∧ CurAt (set6E u3 w.heap.size (.int .i64 x) (.int .i64 y) (.int .i64 (x + 1 + (r1 : Int))) (.int .i64 ((r2 : Int) - 7)) (.int .i64 0) (.bool l)) G A n c ∧ Aside G (G + 1) w (set6E u3 w.heap.size (.int .i64 x) (.int .i64 y) (.int .i64 (x + 1 + (r1 : Int))) (.int .i64 ((r2 : Int) - 7)) (.int .i64 0) (.bool l)))
  have kav := HBa.out.aside HS3.out (.inr (by omega))
  clear kr3
  go_wp2_with fail
  refine hK.out _ _ (show (set6E u3 w.heap.size (.int .i64 x) (.int .i64 y) (.int .i64 (x + 1 + (r1 : Int))) (.int .i64 ((r2 : Int) - 7)) (.int .i64 0) (.bool l)).cell? ⟨w1.heap.size, 0, none⟩ = some (.int .i64 x) ∧ (set6E u3 w.heap.size (.int .i64 x) (.int .i64 y) (.int .i64 (x + 1 + (r1 : Int))) (.int .i64 ((r2 : Int) - 7)) (.int .i64 0) (.bool l)).cell? ⟨w1.heap.size, 1, none⟩ = some (.int .i64 y) from ⟨(kav.setv6E (by omega) _ _ _ _ _ _).cell 0, (kav.setv6E (by omega) _ _ _ _ _ _).cell 1⟩) (fun hHeld => ?_)
  clear hK K
  refine wpAnyH_done (by kernel_rfl) ?_ _
  go_wp2_with fail
  refine bodyPost_ret (results_cell_row rfl _ _ w.heap.size _ #[.int .i64 x, .int .i64 y, .int .i64 (x + 1 + (r1 : Int)), .int .i64 ((r2 : Int) - 7), .int .i64 0, .bool l] (0, 0) _ rfl HE.out.1 Try.underlying26 rfl Try.sizeEdge) rfl ?_
  exact ⟨_, _, _, _, _, rfl, edge_iff.2 (by omega), HE.out.2⟩
set_option maxRecDepth 100000 in
set_option maxHeartbeats 1600000 in
theorem MakeEdge_s (n c B : Nat) (A : Option Addr) (k : Nat) (hk : k ≤ 1000) (w : World) (hn : n ≤ 1099511627776) (hb : Bytes w B A n) (hB : B ≤ w.heap.size) :
    Calls Try.prog 4 #[.slice A n c, .int .i64 k] w fun e w' => ∃ (x y u v : Int) (l : Bool), e = .returned (.agg #[.int .i64 x, .int .i64 y, .int .i64 u, .int .i64 v, .int .i64 0, .bool l]) ∧ edgeB x y u v = true ∧ Below w.heap.size w w' := by
  obtain ⟨K, hK⟩ : ∃ K : Nat, K = 5 * k := ⟨_, rfl⟩
  have hKe : 5 * (k : Int) = (K : Int) := by omega
  have hb0 := below_new w (.cells #[.int .i64 0, .int .i64 0, .int .i64 0, .int .i64 0, .int .i64 0, .bool false] 26)
  have k0 := Box.last w 26 #[.int .i64 0, .int .i64 0, .int .i64 0, .int .i64 0, .int .i64 0, .bool false] rfl
  have hs0 := alloc_size w (.cells #[.int .i64 0, .int .i64 0, .int .i64 0, .int .i64 0, .int .i64 0, .bool false] 26)
  have hbb0 := hb.below (hb0.mono hB)
  have HL := hide (l31New_any n c B K A _ hn (by omega) hbb0 (show B ≤ (w.alloc (.cells #[.int .i64 0, .int .i64 0, .int .i64 0, .int .i64 0, .int .i64 0, .bool false] 26)).heap.size by omega))
  rw [hs0] at HL
  clear hK
  go_enter Try.func4, Try.ntmps4
  go_wp2_with fail
  refine HL.out.mono ?_
  rintro e w1 ⟨rfl, hc1, hb1, hs1⟩
  have hb1' : Below w.heap.size w w1 := hb0.trans (hb1.mono (Nat.le_succ _))
  have k1 := k0.below hb1 (Nat.lt_succ_self _)
  have HN := hide (l12Edge_s (w.heap.size + 1) n c A B w1 hn hc1 (hb.below (hb1'.mono hB)) (by omega))
  have HS := hide hs1
  clear hs1 hc1 hb1 HL hb hbb0 k0 hb0 hs0
  go_wp2_with fail
  refine HN.out.mono ?_
  rintro e w2 ⟨x, y, u, v, l, rfl, hxy, hc2, ha⟩
  have hs1 := HS.out
  have hs2 := ha.size
  have hb2' := hb1'.trans (ha.below (show w.heap.size ≤ w.heap.size + 1 by omega) (by omega))
  have k2 := k1.aside ha (.inl (Nat.lt_succ_self _))
  have HE := hide (⟨k2.set6E, set6E_below hb2' (Nat.le_refl _) _ _ _ _ _ _⟩ : Box (set6E w2 w.heap.size (.int .i64 x) (.int .i64 y) (.int .i64 u) (.int .i64 v) (.int .i64 0) (.bool l)) w.heap.size 26 #[.int .i64 x, .int .i64 y, .int .i64 u, .int .i64 v, .int .i64 0, .bool l] ∧ Below w.heap.size w (set6E w2 w.heap.size (.int .i64 x) (.int .i64 y) (.int .i64 u) (.int .i64 v) (.int .i64 0) (.bool l)))
  obtain ⟨⟨t0, t1, t2, t3, t4, t5⟩, f0, f1, f2, f3, f4, f5⟩ := k2.facts6
  have HXY := hide hxy
  clear hs1 hs2 hb2' k2 k1 hb1' ha hxy HN hc2
  go_wp2_with fail
  refine bodyPost_ret (results_cell_row rfl _ _ w.heap.size _ #[.int .i64 x, .int .i64 y, .int .i64 u, .int .i64 v, .int .i64 0, .bool l] (0, 0) _ rfl HE.out.1 Try.underlying26 rfl Try.sizeEdge) rfl ?_
  exact ⟨x, y, u, v, l, rfl, HXY.out, HE.out.2⟩
end Go.Proofs.Ytdcceppednngjab
