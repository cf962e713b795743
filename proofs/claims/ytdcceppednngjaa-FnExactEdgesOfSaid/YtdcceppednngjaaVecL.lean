/-
  The laws' helpers for lists of vectors: contracts.
-/
import Derived.Test.YtdcceppednngjaaVecM
import Derived.Test.YtdcceppednngjaaLB
namespace Go.Proofs.Ytdcceppednngjaa
open Go.RowKit
set_option linter.unusedVariables false
/-- the first j vectors written, what follows as it was -/
def fillV (vs : List V2) (ys : List Value) (j : Nat) : List Value := fl (vs.take j) ++ ys.drop (j * 2)
theorem fillV_zero (vs : List V2) (ys : List Value) : fillV vs ys 0 = ys := by simp [fillV, fl]
theorem fillV_all {vs : List V2} {ys : List Value} (h : ys.length = vs.length * 2) : fillV vs ys vs.length = fl vs := by simp [fillV, ← h]
theorem fillV_len {vs : List V2} {ys : List Value} {j : Nat} (hj : j ≤ vs.length) (h : ys.length = vs.length * 2) : (fillV vs ys j).length = vs.length * 2 := by
  simp only [fillV, List.length_append, fl_len, List.length_take, List.length_drop]; omega
theorem fillV_step {vs : List V2} {ys : List Value} {j : Nat} (hj : j < vs.length) (h : ys.length = vs.length * 2) : ((fillV vs ys j).set (j * 2) (.int .i64 vs[j].1)).set (j * 2 + 1) (.int .i64 vs[j].2) = fillV vs ys (j + 1) := by
  have e1 : fl (vs.take (j + 1)) = fl (vs.take j) ++ [.int .i64 vs[j].1, .int .i64 vs[j].2] := by
    rw [List.take_succ_eq_append_getElem hj, fl_append]; rfl
  have e2 : ys.drop (j * 2) = ys[j * 2]'(by omega) :: ys[j * 2 + 1]'(by omega) :: ys.drop ((j + 1) * 2) := by
    rw [List.drop_eq_getElem_cons (by omega), List.drop_eq_getElem_cons (by omega)]
    congr 3; omega
  have l1 : (fl (vs.take j)).length = j * 2 := by rw [fl_len, List.length_take]; omega
  unfold fillV
  rw [e1, e2, List.set_append_right _ _ (by omega), List.set_append_right _ _ (by omega), l1]
  have a1 : j * 2 - j * 2 = 0 := by omega
  have a2 : j * 2 + 1 - j * 2 = 1 := by omega
  rw [a1, a2, List.append_assoc]
  rfl
theorem put_vec {w : World} {base g n : Nat} {E : TypeId} {xs : List V2} {ys : List Value} {k : Nat} {w0 : World} {c : Nat} (h : w.ownsRow base E 2 (.slice (some ⟨g, 0, none⟩) n c) n (fillV xs ys k)) (hb : Below base w0 w) (hk : k < xs.length) (hy : ys.length = xs.length * 2) :
    (∃ u, w.cell? ⟨g, k * 2, none⟩ = some u) ∧ (∃ u, w.cell? ⟨g, k * 2 + 1, none⟩ = some u) ∧ w.frozen? ⟨g, k * 2, none⟩ = false ∧ w.frozen? ⟨g, k * 2 + 1, none⟩ = false ∧
    ((w.setCell ⟨g, k * 2, none⟩ (.int .i64 xs[k].1)).setCell ⟨g, k * 2 + 1, none⟩ (.int .i64 xs[k].2)).ownsRow base E 2 (.slice (some ⟨g, 0, none⟩) n c) n (fillV xs ys (k + 1)) ∧
    Below base w0 ((w.setCell ⟨g, k * 2, none⟩ (.int .i64 xs[k].1)).setCell ⟨g, k * 2 + 1, none⟩ (.int .i64 xs[k].2)) := by
  have hl := h.1
  rw [fillV_len (by omega) hy] at hl
  have l2 : (fillV xs ys k).length = xs.length * 2 := fillV_len (by omega) hy
  have hbg : base ≤ g := (h.lt g rfl).1
  refine ⟨⟨_, (h.cellAt (k * 2) (by omega)).trans (List.getElem?_eq_getElem (by omega))⟩, ⟨_, (h.cellAt (k * 2 + 1) (by omega)).trans (List.getElem?_eq_getElem (by omega))⟩, h.frozenAt _, h.frozenAt _, ?_, ?_⟩
  · have h1 := (h.stored (k * 2) (.int .i64 xs[k].1)).1
    have h2 := (h1.stored (k * 2 + 1) (.int .i64 xs[k].2)).1
    rwa [fillV_step hk hy] at h2
  · exact (hb.setCell hbg _).setCell hbg _
set_option maxHeartbeats 400000 in
theorem toVecS_any (A : Option Addr) (n c B : Nat) (xs : List V2) (w : World) (hn : xs.length = n) (hx : Rd w B A (fl xs)) (hB : B ≤ w.heap.size) (hl : n ≤ 1000000000) (hwf : wfV xs) :
    Calls Try.prog 34 #[.slice A n c] w fun e w' => ∃ g, e = .returned (.slice (some ⟨g, 0, none⟩) n n) ∧ w'.ownsRow w.heap.size 27 2 (.slice (some ⟨g, 0, none⟩) n n) n (fl xs) ∧ Below w.heap.size w w' := by
  obtain ⟨i0, hi0, hz0, hz1, hz2⟩ := info_parts Try.infoVec
  obtain ⟨w1, hmk, hown0, hg0⟩ := run_make_full (P := Try.prog) w w.heap.size 63 27 i0 _ 2 Try.underlying63 hi0 hz0 hz1 .i64 .i64 n (by rw [hz2]; omega) (by unfold maxLen; omega) (Nat.le_refl _)
  have hb0 : Below w.heap.size w w1 := (Below.refl _ _).grown hg0 (Nat.le_refl _) (fun k h => by cases h)
  clear hi0 hz0 hz1 hz2 hg0
  generalize (madeCells (Value.agg #[.int .i64 0, .int .i64 0]).cells (n * 2)).toList = ys at hown0
  have hyl : ys.length = n * 2 := by have := hown0.1; omega
  go_enter Try.func34, Try.ntmps34
  go_wp2
  go_loopw [4] (fun i wr => ∃ k : Nat, k ≤ n ∧ i = .int .i64 k ∧ wr.ownsRow w.heap.size 27 2 (.slice (some ⟨w.heap.size, 0, none⟩) n n) n (fillV xs ys k) ∧ Below w.heap.size w wr) (fun i _ => n - (intOf i).toNat)
  case atStart => exact ⟨0, Nat.zero_le _, rfl, by rw [fillV_zero]; exact hown0, hb0⟩
  case round =>
    clear hown0 hb0 hmk
    obtain ⟨k, hk, rfl, hown, hbel⟩ := hrel
    by_cases hlt : k < n
    · obtain ⟨ad, hA, hb1, hc1, hc2⟩ := (hx.below (hbel.mono hB)).vec (k := k) (by omega)
      obtain ⟨f1, f2⟩ := wfV_at hwf (k := k) (by omega)
      have HT := hide (fun (W : World) => toVec_any W xs[k].1 xs[k].2 f1 f2)
      clear f1 f2 hx
      have HS := hide (fun (W : World) (hb : Below wr.heap.size wr W) => put_vec (own_grown hown hb) (hbel.trans (hb.mono hbel.size)) (xs := xs) (k := k) (by omega) (by omega))
      clear hown hbel
      subst hA
      generalize xs[k].1 = x at *
      generalize xs[k].2 = y at *
      go_wp2_with fail
      refine (HT.out wr).mono ?_
      rintro e w2 ⟨rfl, hb2⟩
      obtain ⟨⟨u1, c1⟩, ⟨u2, c2⟩, r1, r2, o⟩ := HS.out w2 hb2
      have H1 := hide o
      clear o hb2 HS HT hc1 hc2
      go_wp2_with fail
      go_roundw
      case rel => exact ⟨k + 1, by omega, by go_num, H1.out.1, H1.out.2⟩
      case measure => simp [intOf]; omega
    · obtain rfl : k = n := by omega
      have hfill : fillV xs ys k = fl xs := by rw [← hn]; exact fillV_all (by omega)
      rw [hfill] at hown
      clear hfill hx hn
      go_wp2_with fail
      go_ret
      exact ⟨_, rfl, hown, hbel⟩
set_option maxHeartbeats 400000 in
theorem eqVecS_any (A D : Option Addr) (n c d B : Nat) (xs : List V2) (w : World) (hn : xs.length = n) (hx : Rd w B A (fl xs)) (hy : Rd w B D (fl xs)) (hB : B ≤ w.heap.size) (hl : n ≤ 1000000000) (hwf : wfV xs) :
    Calls Try.prog 39 #[.slice A n c, .slice D n d] w fun e w' => e = .returned (.bool true) ∧ Below w.heap.size w w' := by
  go_enter Try.func39, Try.ntmps39
  go_wp2_with fail
  go_loopw [5] (fun i wr => ∃ k : Nat, k ≤ n ∧ i = .int .i64 k ∧ Below w.heap.size w wr) (fun i _ => n - (intOf i).toNat)
  case atStart => exact ⟨0, Nat.zero_le _, rfl, Below.refl _ _⟩
  case round =>
    obtain ⟨k, hk, rfl, hbel⟩ := hrel
    by_cases hlt : k < n
    · obtain ⟨ad, hA, hb1, hc1, hc2⟩ := (hx.below (hbel.mono hB)).vec (k := k) (by omega)
      obtain ⟨ae, hE, hb3, hc3, hc4⟩ := (hy.below (hbel.mono hB)).vec (k := k) (by omega)
      obtain ⟨f1, f2⟩ := wfV_at hwf (k := k) (by omega)
      have HT := hide (fun (W : World) => eqVec_any W xs[k].1 xs[k].2 f1 f2)
      have hba : (ad.add (k * 2)).block < wr.heap.size := by rw [add_block]; have := hbel.size; omega
      have hbe : (ae.add (k * 2)).block < wr.heap.size := by rw [add_block]; have := hbel.size; omega
      clear f1 f2 hx hy
      subst hA
      subst hE
      generalize xs[k].1 = x at *
      generalize xs[k].2 = y at *
      have hbs := hbel.size
      have hj0 : (0 : Int) ≤ (k : Int) := Int.natCast_nonneg _
      have hj1 : (k : Int) < (n : Int) := by omega
      go_wp2_with fail
      go_region_held3 (fun w' => w'.cell? (ad.add (k * 2)) = some (.int .i64 x) ∧ w'.cell? ⟨(ad.add (k * 2)).block, (ad.add (k * 2)).off + 1, none⟩ = some (.int .i64 y) ∧ w'.cell? (ae.add (k * 2)) = some (.int .i64 x) ∧ w'.cell? ⟨(ae.add (k * 2)).block, (ae.add (k * 2)).off + 1, none⟩ = some (.int .i64 y) ∧ Below wr.heap.size wr w')
        (first | exact ⟨hc1, hc2, hc3, hc4, (Below.refl _ _).drew⟩ | exact ⟨(hb2.cell hba).trans hc1, (hb2.cell (p := ⟨_, _, none⟩) hba).trans hc2, (hb2.cell hbe).trans hc3, (hb2.cell (p := ⟨_, _, none⟩) hbe).trans hc4, undrew hb2⟩)
        (first | (go_at_call 72; refine (HT.out _).mono ?_; rintro e w1 ⟨rfl, hb2⟩))
      go_wp2_with fail
      go_roundw
      case rel => exact ⟨k + 1, by omega, by go_num, hbel.trans ((undrew hb2).mono hbs)⟩
      case measure => simp [intOf]; omega
    · obtain rfl : k = n := by omega
      go_wp2_with fail
      go_ret
      exact ⟨rfl, hbel⟩
end Go.Proofs.Ytdcceppednngjaa
