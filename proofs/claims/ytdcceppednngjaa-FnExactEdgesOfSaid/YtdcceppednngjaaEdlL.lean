/-
  The laws' helpers for lists of edges: contracts: eqEdgeS, markEdgeS, heldEdgeS.
-/
import Derived.Test.YtdcceppednngjaaED
import Derived.Test.YtdcceppednngjaaVecL2
namespace Go.Proofs.Ytdcceppednngjaa
open Go.RowKit
set_option linter.unusedVariables false
set_option maxHeartbeats 1600000 in
theorem eqEdge_any (w : World) (x y u v k : Int) (l : Bool) (hx : (Lit.int .i64 x).wf = true) (hy : (Lit.int .i64 y).wf = true) (hu : (Lit.int .i64 u).wf = true) (hv : (Lit.int .i64 v).wf = true) (hk : (Lit.int .i64 k).wf = true) :
    Calls Try.prog 38 #[.agg #[.int .i64 x, .int .i64 y, .int .i64 u, .int .i64 v, .int .i64 k, .bool l], .agg #[.int .i64 x, .int .i64 y, .int .i64 u, .int .i64 v, .int .i64 k, .bool l]] w fun e w' => e = .returned (.bool true) ∧ Below w.heap.size w w' := by
  have H1 := hide (fun (W : World) => eqVec_any W x y hx hy)
  have H2 := hide (fun (W : World) => eqVec_any W u v hu hv)
  clear hx hy hu hv
  obtain ⟨W0, hW0⟩ : ∃ W0, W0 = (w.alloc (.cells #[.int .i64 x, .int .i64 y, .int .i64 u, .int .i64 v, .int .i64 k, .bool l] 29)).alloc (.cells #[.int .i64 x, .int .i64 y, .int .i64 u, .int .i64 v, .int .i64 k, .bool l] 29) := ⟨_, rfl⟩
  have hT0 : Below w.heap.size w W0 := by rw [hW0]; exact below_alloc (below_new _ _) _
  have ka : Box W0 w.heap.size 29 #[.int .i64 x, .int .i64 y, .int .i64 u, .int .i64 v, .int .i64 k, .bool l] := by rw [hW0]; exact (Box.last _ _ _ rfl).alloc _
  have kb : Box W0 (w.heap.size + 1) 29 #[.int .i64 x, .int .i64 y, .int .i64 u, .int .i64 v, .int .i64 k, .bool l] := by rw [hW0]; exact Box.last _ _ _ (alloc_size _ _).symm
  go_enter Try.func38, Try.ntmps38
  go_upto_region 1 with fail
  rw [← hW0]
  clear hW0
  obtain ⟨a0, a1, a2, a3, a4, a5⟩ := ka.cells6
  obtain ⟨b0, b1, b2, b3, b4, b5⟩ := kb.cells6
  go_wp2_with fail
  refine (H1.out _).mono ?_
  rintro e w1 ⟨rfl, hb1⟩
  clear a0 a1 a2 a3 a4 a5 b0 b1 b2 b3 b4 b5
  have ka := ka.below hb1 ka.lt
  have kb := kb.below hb1 kb.lt
  have hT1 := below_then hT0 hb1
  clear hb1 hT0
  obtain ⟨a0, a1, a2, a3, a4, a5⟩ := ka.cells6
  obtain ⟨b0, b1, b2, b3, b4, b5⟩ := kb.cells6
  go_wp2_with fail
  refine (H2.out _).mono ?_
  rintro e w2 ⟨rfl, hb2⟩
  clear a0 a1 a2 a3 a4 a5 b0 b1 b2 b3 b4 b5
  have ka := ka.below hb2 ka.lt
  have kb := kb.below hb2 kb.lt
  have hT2 := below_then hT1 hb2
  clear hb2 hT1
  obtain ⟨a0, a1, a2, a3, a4, a5⟩ := ka.cells6
  obtain ⟨b0, b1, b2, b3, b4, b5⟩ := kb.cells6
  have q1 : (k != k) = false := by simp
  have q2 : (l != l) = false := by cases l <;> rfl
  go_wp2_with fail
  go_ret
  exact ⟨rfl, hT2⟩
set_option maxHeartbeats 1600000 in
theorem eqEdgeS_any (A D : Option Addr) (n c d B : Nat) (es : List Ed) (w : World) (hn : es.length = n) (hx : Rd w B A (edc es)) (hy : Rd w B D (edc es)) (hB : B ≤ w.heap.size) (hl : n ≤ 1000000000) (hwf : wfE es) :
    Calls Try.prog 14 #[.slice A n c, .slice D n d] w fun e w' => e = .returned (.bool true) ∧ Below w.heap.size w w' := by
  go_enter Try.func14, Try.ntmps14
  go_wp2_with fail
  go_loopw [5] (fun i wr => ∃ k : Nat, k ≤ n ∧ i = .int .i64 k ∧ Below w.heap.size w wr) (fun i _ => n - (intOf i).toNat)
  case atStart => exact ⟨0, Nat.zero_le _, rfl, Below.refl _ _⟩
  case round =>
    obtain ⟨k, hk, rfl, hbel⟩ := hrel
    by_cases hlt : k < n
    · obtain ⟨ad, hA, hb1, p0, p1, p2, p3, p4, p5⟩ := (hx.below (hbel.mono hB)).ed (k := k) (by omega)
      obtain ⟨ae, hE, hb3, q0, q1, q2, q3, q4, q5⟩ := (hy.below (hbel.mono hB)).ed (k := k) (by omega)
      obtain ⟨f1, f2, f3, f4, f5⟩ := hwf _ (List.getElem_mem (show k < es.length by omega))
      have HT := hide (fun (W : World) => eqEdge_any W es[k].x es[k].y es[k].u es[k].v es[k].k es[k].l f1 f2 f3 f4 f5)
      have hba : (ad.add (k * 6)).block < wr.heap.size := by rw [add_block]; have := hbel.size; omega
      have hbe : (ae.add (k * 6)).block < wr.heap.size := by rw [add_block]; have := hbel.size; omega
      clear f1 f2 f3 f4 f5 hx hy
      subst hA
      subst hE
      generalize es[k].x = x at *
      generalize es[k].y = y at *
      generalize es[k].u = u at *
      generalize es[k].v = v at *
      generalize es[k].k = i at *
      generalize es[k].l = l at *
      have hbs := hbel.size
      have hj0 : (0 : Int) ≤ (k : Int) := Int.natCast_nonneg _
      have hj1 : (k : Int) < (n : Int) := by omega
      go_wp2_with fail
      go_region_held3 (fun w' => w'.cell? (ad.add (k * 6)) = some (.int .i64 x) ∧ w'.cell? ⟨(ad.add (k * 6)).block, (ad.add (k * 6)).off + 1, none⟩ = some (.int .i64 y) ∧ w'.cell? ⟨(ad.add (k * 6)).block, (ad.add (k * 6)).off + 2, none⟩ = some (.int .i64 u) ∧ w'.cell? ⟨(ad.add (k * 6)).block, (ad.add (k * 6)).off + 3, none⟩ = some (.int .i64 v) ∧ w'.cell? ⟨(ad.add (k * 6)).block, (ad.add (k * 6)).off + 4, none⟩ = some (.int .i64 i) ∧ w'.cell? ⟨(ad.add (k * 6)).block, (ad.add (k * 6)).off + 5, none⟩ = some (.bool l) ∧
          w'.cell? (ae.add (k * 6)) = some (.int .i64 x) ∧ w'.cell? ⟨(ae.add (k * 6)).block, (ae.add (k * 6)).off + 1, none⟩ = some (.int .i64 y) ∧ w'.cell? ⟨(ae.add (k * 6)).block, (ae.add (k * 6)).off + 2, none⟩ = some (.int .i64 u) ∧ w'.cell? ⟨(ae.add (k * 6)).block, (ae.add (k * 6)).off + 3, none⟩ = some (.int .i64 v) ∧ w'.cell? ⟨(ae.add (k * 6)).block, (ae.add (k * 6)).off + 4, none⟩ = some (.int .i64 i) ∧ w'.cell? ⟨(ae.add (k * 6)).block, (ae.add (k * 6)).off + 5, none⟩ = some (.bool l) ∧ Below wr.heap.size wr w')
        (first | exact ⟨p0, p1, p2, p3, p4, p5, q0, q1, q2, q3, q4, q5, (Below.refl _ _).drew⟩ | exact ⟨(hb2.cell hba).trans p0, (hb2.cell (p := ⟨_, _, none⟩) hba).trans p1, (hb2.cell (p := ⟨_, _, none⟩) hba).trans p2, (hb2.cell (p := ⟨_, _, none⟩) hba).trans p3, (hb2.cell (p := ⟨_, _, none⟩) hba).trans p4, (hb2.cell (p := ⟨_, _, none⟩) hba).trans p5, (hb2.cell hbe).trans q0, (hb2.cell (p := ⟨_, _, none⟩) hbe).trans q1, (hb2.cell (p := ⟨_, _, none⟩) hbe).trans q2, (hb2.cell (p := ⟨_, _, none⟩) hbe).trans q3, (hb2.cell (p := ⟨_, _, none⟩) hbe).trans q4, (hb2.cell (p := ⟨_, _, none⟩) hbe).trans q5, undrew hb2⟩)
        (first | (go_at_call 38; refine (HT.out _).mono ?_; rintro e w1 ⟨rfl, hb2⟩))
      go_wp2_with fail
      go_roundw
      case rel => exact ⟨k + 1, by omega, by go_num, hbel.trans ((undrew hb2).mono hbs)⟩
      case measure => simp [intOf]; omega
    · obtain rfl : k = n := by omega
      go_wp2_with fail
      go_ret
      exact ⟨rfl, hbel⟩
/-! marks -/
def mark1 (q : Int) : Ed := ⟨q, q + 1, q + 1 + 1, q + 1 + 1 + 1, q + 1 + 1 + 1 + 1, (q + 1 + 1 + 1 + 1 + 1) % 3 == 0⟩
def markE (k n : Nat) : List Ed := (List.range n).map fun i => mark1 ((k + i * 6 : Nat) : Int)
theorem markE_len (k n : Nat) : (markE k n).length = n := by simp [markE]
theorem markE_at {k n i : Nat} (h : i < n) : (markE k n)[i]'(by rw [markE_len]; exact h) = mark1 ((k + i * 6 : Nat) : Int) := by simp [markE]
def fillE (es : List Ed) (ys : List Value) (j : Nat) : List Value := edc (es.take j) ++ ys.drop (j * 6)
theorem fillE_zero (es : List Ed) (ys : List Value) : fillE es ys 0 = ys := by simp [fillE, edc]
theorem fillE_all {es : List Ed} {ys : List Value} (h : ys.length = es.length * 6) : fillE es ys es.length = edc es := by simp [fillE, ← h]
theorem fillE_len {es : List Ed} {ys : List Value} {j : Nat} (hj : j ≤ es.length) (h : ys.length = es.length * 6) : (fillE es ys j).length = es.length * 6 := by
  simp only [fillE, List.length_append, edc_len, List.length_take, List.length_drop]; omega
theorem fillE_step {es : List Ed} {ys : List Value} {j : Nat} (hj : j < es.length) (h : ys.length = es.length * 6) :
    ((((((fillE es ys j).set (j * 6) (.int .i64 es[j].x)).set (j * 6 + 1) (.int .i64 es[j].y)).set (j * 6 + 2) (.int .i64 es[j].u)).set (j * 6 + 3) (.int .i64 es[j].v)).set (j * 6 + 4) (.int .i64 es[j].k)).set (j * 6 + 5) (.bool es[j].l) = fillE es ys (j + 1) := by
  have e1 : edc (es.take (j + 1)) = edc (es.take j) ++ es[j].cells := by
    rw [List.take_succ_eq_append_getElem hj, edc_append]; simp [edc]
  have e2 : ∃ a b c d e f, ys.drop (j * 6) = a :: b :: c :: d :: e :: f :: ys.drop ((j + 1) * 6) := by
    refine ⟨ys[j * 6]'(by omega), ys[j * 6 + 1]'(by omega), ys[j * 6 + 2]'(by omega), ys[j * 6 + 3]'(by omega), ys[j * 6 + 4]'(by omega), ys[j * 6 + 5]'(by omega), ?_⟩
    rw [List.drop_eq_getElem_cons (by omega), List.drop_eq_getElem_cons (by omega), List.drop_eq_getElem_cons (by omega), List.drop_eq_getElem_cons (by omega), List.drop_eq_getElem_cons (by omega), List.drop_eq_getElem_cons (by omega)]
    congr 7; omega
  obtain ⟨a, b, c, d, e, f, e2⟩ := e2
  have l1 : (edc (es.take j)).length = j * 6 := by rw [edc_len, List.length_take]; omega
  unfold fillE
  rw [e1, e2]
  generalize edc (es.take j) = X at *
  subst_vars
  rw [← l1]
  simp [List.set_append_right, Ed.cells]
theorem put_edge {w : World} {base g n : Nat} {E : TypeId} {es : List Ed} {ys : List Value} {k : Nat} {c : Nat} (h : w.ownsRow base E 6 (.slice (some ⟨g, 0, none⟩) n c) n (fillE es ys k)) (hk : k < es.length) (hy : ys.length = es.length * 6) :
    ((∃ u, w.cell? ⟨g, k * 6, none⟩ = some u) ∧ (∃ u, w.cell? ⟨g, k * 6 + 1, none⟩ = some u) ∧ (∃ u, w.cell? ⟨g, k * 6 + 2, none⟩ = some u) ∧ (∃ u, w.cell? ⟨g, k * 6 + 3, none⟩ = some u) ∧ (∃ u, w.cell? ⟨g, k * 6 + 4, none⟩ = some u) ∧ (∃ u, w.cell? ⟨g, k * 6 + 5, none⟩ = some u)) ∧
    (w.frozen? ⟨g, k * 6, none⟩ = false ∧ w.frozen? ⟨g, k * 6 + 1, none⟩ = false ∧ w.frozen? ⟨g, k * 6 + 2, none⟩ = false ∧ w.frozen? ⟨g, k * 6 + 3, none⟩ = false ∧ w.frozen? ⟨g, k * 6 + 4, none⟩ = false ∧ w.frozen? ⟨g, k * 6 + 5, none⟩ = false) ∧
    ((((((w.setCell ⟨g, k * 6, none⟩ (.int .i64 es[k].x)).setCell ⟨g, k * 6 + 1, none⟩ (.int .i64 es[k].y)).setCell ⟨g, k * 6 + 2, none⟩ (.int .i64 es[k].u)).setCell ⟨g, k * 6 + 3, none⟩ (.int .i64 es[k].v)).setCell ⟨g, k * 6 + 4, none⟩ (.int .i64 es[k].k)).setCell ⟨g, k * 6 + 5, none⟩ (.bool es[k].l)).ownsRow base E 6 (.slice (some ⟨g, 0, none⟩) n c) n (fillE es ys (k + 1)) := by
  have hl := h.1
  rw [fillE_len (by omega) hy] at hl
  have l2 : (fillE es ys k).length = es.length * 6 := fillE_len (by omega) hy
  refine ⟨⟨⟨_, (h.cellAt (k * 6) (by omega)).trans (List.getElem?_eq_getElem (by omega))⟩, ⟨_, (h.cellAt (k * 6 + 1) (by omega)).trans (List.getElem?_eq_getElem (by omega))⟩, ⟨_, (h.cellAt (k * 6 + 2) (by omega)).trans (List.getElem?_eq_getElem (by omega))⟩, ⟨_, (h.cellAt (k * 6 + 3) (by omega)).trans (List.getElem?_eq_getElem (by omega))⟩, ⟨_, (h.cellAt (k * 6 + 4) (by omega)).trans (List.getElem?_eq_getElem (by omega))⟩, ⟨_, (h.cellAt (k * 6 + 5) (by omega)).trans (List.getElem?_eq_getElem (by omega))⟩⟩, ⟨h.frozenAt _, h.frozenAt _, h.frozenAt _, h.frozenAt _, h.frozenAt _, h.frozenAt _⟩, ?_⟩
  have h1 := (h.stored (k * 6) (.int .i64 es[k].x)).1
  have h2 := (h1.stored (k * 6 + 1) (.int .i64 es[k].y)).1
  have h3 := (h2.stored (k * 6 + 2) (.int .i64 es[k].u)).1
  have h4 := (h3.stored (k * 6 + 3) (.int .i64 es[k].v)).1
  have h5 := (h4.stored (k * 6 + 4) (.int .i64 es[k].k)).1
  have h6 := (h5.stored (k * 6 + 5) (.bool es[k].l)).1
  rwa [fillE_step hk hy] at h6
set_option maxHeartbeats 3200000 in
theorem markEdgeS_own (v : Value) (n k E lo hi : Nat) (es : List Ed) (w : World) (o : OwnE w lo hi E v n es) (hl : n ≤ 100000000) (hk : k ≤ 100000000) :
    Calls Try.prog 17 #[v, .int .i64 k] w fun e w' => e = .returned (.int .i64 ((k + n * 6 : Nat) : Int)) ∧ OwnE w' lo hi E v n (markE k n) ∧ Aside lo hi w w' := by
  obtain ⟨hown, hgs⟩ := o
  have hyl : (edc es).length = n * 6 := hown.1
  rcases own_form hown with ⟨rfl, rfl, hxs⟩ | ⟨g, c, rfl, hbg, hg⟩
  · go_enter Try.func17, Try.ntmps17
    go_wp2
    refine wp_loop_rounds 1 ?_
    rw [rounds_succ]
    go_wp2
    go_ret
    exact ⟨rfl, OwnE.nil _ _ _ _, Aside.refl _⟩
  · clear hg
    have hgh : g < hi := hgs g rfl
    generalize edc es = ys at *
    clear hgs
    go_enter Try.func17, Try.ntmps17
    go_wp2
    go_loopw [1, 5] (fun q i wr => ∃ j : Nat, j ≤ n ∧ q = .int .i64 ((k + j * 6 : Nat) : Int) ∧ i = .int .i64 j ∧ wr.ownsRow lo E 6 (.slice (some ⟨g, 0, none⟩) n c) n (fillE (markE k n) ys j) ∧ Aside lo hi w wr) (fun _ i _ => n - (intOf i).toNat)
    case atStart => exact ⟨0, Nat.zero_le _, rfl, rfl, by rw [fillE_zero]; exact hown, Aside.refl _⟩
    case round =>
      clear hown
      obtain ⟨j, hj, rfl, rfl, hown, ha⟩ := hrel
      by_cases hlt : j < n
      · have hp := put_edge hown (by rw [markE_len]; exact hlt) (by rw [markE_len]; exact hyl)
        rw [markE_at hlt] at hp
        obtain ⟨⟨⟨u0, c0⟩, ⟨u1, c1⟩, ⟨u2, c2⟩, ⟨u3, c3⟩, ⟨u4, c4⟩, ⟨u5, c5⟩⟩, ⟨r0, r1, r2, r3, r4, r5⟩, o⟩ := hp
        simp only [mark1] at o
        have hq0 : (0 : Int) ≤ ((k + j * 6 : Nat) : Int) ∧ ((k + j * 6 : Nat) : Int) ≤ 4000000000 := by omega
        have HEND := hide (show ((k + (j + 1) * 6 : Nat) : Int) = ((k + j * 6 : Nat) : Int) + 1 + 1 + 1 + 1 + 1 + 1 by omega)
        generalize ((k + j * 6 : Nat) : Int) = q at *
        have H1 := hide (And.intro o ((((((ha.setCell (a := ⟨g, j * 6, none⟩) hbg hgh (.int .i64 q)).setCell (a := ⟨g, j * 6 + 1, none⟩) hbg hgh (.int .i64 (q + 1))).setCell (a := ⟨g, j * 6 + 2, none⟩) hbg hgh (.int .i64 (q + 1 + 1))).setCell (a := ⟨g, j * 6 + 3, none⟩) hbg hgh (.int .i64 (q + 1 + 1 + 1))).setCell (a := ⟨g, j * 6 + 4, none⟩) hbg hgh (.int .i64 (q + 1 + 1 + 1 + 1))).setCell (a := ⟨g, j * 6 + 5, none⟩) hbg hgh (.bool ((q + 1 + 1 + 1 + 1 + 1) % 3 == 0))))
        clear o hown ha
        go_wp2_with fail
        go_roundw
        case rel => exact ⟨j + 1, by omega, by rw [HEND.out], by go_num, H1.out.1, H1.out.2⟩
        case measure => simp [intOf]; omega
      · obtain rfl : j = n := by omega
        have hf : fillE (markE k j) ys j = edc (markE k j) := by
          have := fillE_all (es := markE k j) (ys := ys) (by rw [markE_len]; exact hyl)
          rwa [markE_len] at this
        rw [hf] at hown
        clear hf
        go_wp2
        go_ret
        exact ⟨rfl, ⟨hown, fun g' hg' => by simp [Value.ownBlock] at hg'; omega⟩, ha⟩
set_option maxHeartbeats 3200000 in
theorem heldEdgeS_any (A : Option Addr) (n c k B : Nat) (w : World) (hx : Rd w B A (edc (markE k n))) (hl : n ≤ 100000000) (hk : k ≤ 100000000) :
    Calls Try.prog 18 #[.slice A n c, .int .i64 k] w fun e w' => e = .returned (.int .i64 ((k + n * 6 : Nat) : Int)) ∧ w = w' := by
  go_enter Try.func18, Try.ntmps18
  go_wp2
  go_loop [1, 5] (fun q i => ∃ j : Nat, j ≤ n ∧ q = .int .i64 ((k + j * 6 : Nat) : Int) ∧ i = .int .i64 j) (fun _ i => n - (intOf i).toNat)
  case atStart => exact ⟨0, Nat.zero_le _, rfl, rfl⟩
  case round =>
    obtain ⟨j, hj, rfl, rfl⟩ := hrel
    by_cases hlt : j < n
    · obtain ⟨ad, hA, hb1, p0, p1, p2, p3, p4, p5⟩ := hx.ed (k := j) (by rw [markE_len]; exact hlt)
      rw [markE_at hlt] at p0 p1 p2 p3 p4 p5
      simp only [mark1] at p0 p1 p2 p3 p4 p5
      have hq0 : (0 : Int) ≤ ((k + j * 6 : Nat) : Int) ∧ ((k + j * 6 : Nat) : Int) ≤ 4000000000 := by omega
      have HEND := hide (show ((k + (j + 1) * 6 : Nat) : Int) = ((k + j * 6 : Nat) : Int) + 1 + 1 + 1 + 1 + 1 + 1 by omega)
      generalize ((k + j * 6 : Nat) : Int) = q at *
      have e0 : (q != q) = false := by simp
      have e1 : (q + 1 != q + 1) = false := by simp
      have e2 : (q + 1 + 1 != q + 1 + 1) = false := by simp
      have e3 : (q + 1 + 1 + 1 != q + 1 + 1 + 1) = false := by simp
      have e4 : (q + 1 + 1 + 1 + 1 != q + 1 + 1 + 1 + 1) = false := by simp
      have e5 : ((q + 1 + 1 + 1 + 1 + 1) % 3 == 0) = ((q + 1 + 1 + 1 + 1 + 1) % 3 == 0) := rfl
      clear hx
      subst hA
      generalize hbq : ((q + 1 + 1 + 1 + 1 + 1) % 3 == 0) = bq at *
      have e6 : (bq != bq) = false := by cases bq <;> rfl
      go_wp2_with fail
      go_round
      case rel => exact ⟨j + 1, by omega, by rw [HEND.out], by go_num⟩
      case measure => simp [intOf]; omega
    · obtain rfl : j = n := by omega
      go_wp2
      go_ret
      exact ⟨rfl, rfl⟩
end Go.Proofs.Ytdcceppednngjaa
