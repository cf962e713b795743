/-
  The texts EdlM, put together; each has its own heading below. No condition of ours.
-/
import Derived.Test.YtdcceppednngjaaPtM
import Derived.Test.YtdcceppednngjaaLB
import Derived.Test.YtdcceppednngjaaSB
import Derived.Test.YtdcceppednngjaaHM
/-
  Lists of edges: plain (the edges of polygons) and in memory: rows of six cells.
-/



namespace Go.Proofs.Ytdcceppednngjaa
open Go.RowKit
set_option linter.unusedVariables false
structure Ed where
  x : Int
  y : Int
  u : Int
  v : Int
  k : Int
  l : Bool
def Ed.cells (e : Ed) : List Value := [.int .i64 e.x, .int .i64 e.y, .int .i64 e.u, .int .i64 e.v, .int .i64 e.k, .bool e.l]
def edc (es : List Ed) : List Value := es.flatMap Ed.cells
theorem edc_cons (e : Ed) (es : List Ed) : edc (e :: es) = .int .i64 e.x :: .int .i64 e.y :: .int .i64 e.u :: .int .i64 e.v :: .int .i64 e.k :: .bool e.l :: edc es := rfl
theorem edc_append (a b : List Ed) : edc (a ++ b) = edc a ++ edc b := by simp [edc]
theorem edc_len (es : List Ed) : (edc es).length = es.length * 6 := by
  induction es with
  | nil => rfl
  | cons e es ih => rw [edc_cons]; simp only [List.length_cons, ih]; omega
theorem edc_one (es : List Ed) : ∀ u ∈ edc es, u.oneCell' = true := fun u hu => by
  simp only [edc, List.mem_flatMap] at hu
  obtain ⟨e, _, hu⟩ := hu
  simp [Ed.cells] at hu
  rcases hu with rfl | rfl | rfl | rfl | rfl | rfl <;> rfl
theorem edc_at {es : List Ed} {k : Nat} (h : k < es.length) : ∀ j u, es[k].cells[j]? = some u → (edc es)[k * 6 + j]? = some u := by
  induction es generalizing k with
  | nil => simp at h
  | cons e es ih =>
    intro j u hu
    have hj : j < 6 := (List.getElem?_eq_some_iff.1 hu).1
    have e0 : edc (e :: es) = e.cells ++ edc es := rfl
    rw [e0]
    match k, h with
    | 0, _ => rw [List.getElem?_append_left (by show 0 * 6 + j < 6; omega), Nat.zero_mul, Nat.zero_add]; exact hu
    | k + 1, h =>
      rw [List.getElem?_append_right (by show 6 ≤ (k + 1) * 6 + j; omega), show (k + 1) * 6 + j - e.cells.length = k * 6 + j from by show (k + 1) * 6 + j - 6 = _; omega]
      exact ih (k := k) (by simpa using h) j u (by simpa using hu)
theorem Try.infoEdge : (Try.prog.info? 29).map (fun i => (i.zero, i.size, i.bytes)) = some (some (.agg #[.int .i64 0, .int .i64 0, .int .i64 0, .int .i64 0, .int .i64 0, .bool false]), 6, 48) := by kernel_rfl
theorem Try.sliceEdge : SliceOf Try.prog 34 29 6 48 := by
  obtain ⟨i0, hi0, hz0, hz1, hz2⟩ := info_parts Try.infoEdge
  exact ⟨Try.underlying34, i0, _, hi0, hz0, hz1, hz2, rfl, by omega⟩
/-! plain: the edges of polygons -/
def edg1 (a b : V2) (k : Int) : List Ed := if a.1 < b.1 then [⟨a.1, a.2, b.1, b.2, k, true⟩] else if b.1 < a.1 then [⟨b.1, b.2, a.1, a.2, k, false⟩] else []
def edgP (l : List V2) (k : Int) : Nat → List Ed
  | 0 => []
  | j + 1 => edgP l k j ++ edg1 (atV l j) (atV l ((j + 1) % l.length)) k
def edgL (l : List V2) (k : Int) : List Ed := edgP l k l.length
def edgA (L : List (List V2)) : Nat → List Ed
  | 0 => []
  | j + 1 => edgA L j ++ edgL (L.getD j []) (j : Int)
noncomputable def edgR (L : List (List V2)) : List Ed := if L.all polyB = true then edgA L L.length else []
theorem edg1_len (a b : V2) (k : Int) : (edg1 a b k).length ≤ 1 := by unfold edg1; split; simp; split <;> simp
theorem edgP_len (l : List V2) (k : Int) : ∀ j, (edgP l k j).length ≤ j
  | 0 => Nat.le_refl _
  | j + 1 => by
    have h1 := edgP_len l k j
    have h2 := edg1_len (atV l j) (atV l ((j + 1) % l.length)) k
    simp only [edgP, List.length_append]; omega
theorem edgA_len (L : List (List V2)) : ∀ j, (edgA L j).length ≤ totN (L.take j)
  | 0 => by simp [edgA]
  | j + 1 => by
    have h1 := edgA_len L j
    simp only [edgA, List.length_append]
    by_cases hj : j < L.length
    · rw [totN_take hj]
      have h2 := edgP_len L[j] (j : Int) L[j].length
      have e : L.getD j [] = L[j] := by simp [List.getD, List.getElem?_eq_getElem hj]
      rw [e]
      show _ + (edgL L[j] j).length ≤ _
      unfold edgL; omega
    · have e : L.getD j [] = [] := by simp [List.getD, List.getElem?_eq_none (by omega : L.length ≤ j)]
      rw [e, totN_all L (by omega)]
      have : totN (L.take j) = totN L := totN_all L (by omega)
      show _ + (edgL [] j).length ≤ _
      simp [edgL, edgP]; omega
theorem edgR_len (L : List (List V2)) : (edgR L).length ≤ totN L := by
  unfold edgR
  split
  · have := edgA_len L L.length; rwa [List.take_length] at this
  · simp
def Ed.wf (e : Ed) : Prop := (Lit.int .i64 e.x).wf = true ∧ (Lit.int .i64 e.y).wf = true ∧ (Lit.int .i64 e.u).wf = true ∧ (Lit.int .i64 e.v).wf = true ∧ (Lit.int .i64 e.k).wf = true
def wfE (es : List Ed) : Prop := ∀ e ∈ es, e.wf
theorem atV_wf {l : List V2} (h : wfV l) (i : Nat) : (Lit.int .i64 (atV l i).1).wf = true ∧ (Lit.int .i64 (atV l i).2).wf = true := by
  by_cases hi : i < l.length
  · rw [atV_eq hi]; exact h _ (List.getElem_mem hi)
  · have : atV l i = (0, 0) := by simp [atV, List.getD, List.getElem?_eq_none (by omega : l.length ≤ i)]
    rw [this]; exact ⟨rfl, rfl⟩
theorem edgP_wf {l : List V2} (h : wfV l) {k : Int} (hk : (Lit.int .i64 k).wf = true) : ∀ j, wfE (edgP l k j)
  | 0 => fun e he => by simp [edgP] at he
  | j + 1 => fun e he => by
    simp only [edgP, List.mem_append] at he
    rcases he with he | he
    · exact edgP_wf h hk j e he
    · obtain ⟨a1, a2⟩ := atV_wf h j
      obtain ⟨b1, b2⟩ := atV_wf h ((j + 1) % l.length)
      unfold edg1 at he
      split at he
      · simp at he; subst he; exact ⟨a1, a2, b1, b2, hk⟩
      · split at he
        · simp at he; subst he; exact ⟨b1, b2, a1, a2, hk⟩
        · simp at he
theorem edgA_wf {L : List (List V2)} (h : ∀ l ∈ L, wfV l) : ∀ j, j ≤ 4000000 → wfE (edgA L j)
  | 0, _ => fun e he => by simp [edgA] at he
  | j + 1, hj => fun e he => by
    simp only [edgA, List.mem_append] at he
    rcases he with he | he
    · exact edgA_wf h j (by omega) e he
    · refine edgP_wf ?_ (WalkArith.wf_i64 ⟨by omega, by omega⟩) _ e he
      by_cases hi : j < L.length
      · have e : L.getD j [] = L[j] := by simp [List.getD, List.getElem?_eq_getElem hi]
        rw [e]; exact h _ (List.getElem_mem hi)
      · have e : L.getD j [] = [] := by simp [List.getD, List.getElem?_eq_none (by omega : L.length ≤ j)]
        rw [e]; exact fun v hv => by simp at hv
theorem edgR_wf {L : List (List V2)} (h : ∀ l ∈ L, wfV l) (hl : L.length ≤ 4000000) : wfE (edgR L) := by
  unfold edgR
  split
  · exact edgA_wf h _ hl
  · exact fun e he => by simp at he
/-- a list of edges of the call's own, in a block from lo up to hi -/
def OwnE (w : World) (lo hi : Nat) (E : TypeId) (v : Value) (n : Nat) (es : List Ed) : Prop := w.ownsRow lo E 6 v n (edc es) ∧ ∀ g, v.ownBlock = some g → g < hi
section
variable {w w' : World} {lo hi lo' hi' n c B : Nat} {E : TypeId} {v : Value} {es : List Ed} {A : Option Addr}
theorem OwnE.of_row (h : w.ownsRow lo E 6 v n (edc es)) (hh : w.heap.size ≤ hi) : OwnE w lo hi E v n es := ⟨h, fun g hg => Nat.lt_of_lt_of_le (h.lt g hg).2 hh⟩
theorem OwnE.nil (w : World) (lo hi : Nat) (E : TypeId) : OwnE w lo hi E (.slice none 0 0) 0 [] := ⟨World.ownsRow_nil _ _ _ _, fun g hg => by simp [Value.ownBlock] at hg⟩
theorem OwnE.len (h : OwnE w lo hi E v n es) : es.length = n := by
  have := h.1.1
  rw [edc_len] at this; omega
theorem OwnE.below (h : OwnE w lo hi E v n es) (hb : Below B w w') (hh : hi ≤ B) : OwnE w' lo hi E v n es := ⟨own_below h.1 hb fun g hg => Nat.lt_of_lt_of_le (h.2 g hg) hh, h.2⟩
theorem OwnE.aside (h : OwnE w lo hi E v n es) (ha : Aside lo' hi' w w') (hd : hi ≤ lo' ∨ hi' ≤ lo) : OwnE w' lo hi E v n es :=
  ⟨ownsRow_kept h.1 fun g hg => ha.block g (h.1.lt g hg).2 (by have h1 := (h.1.lt g hg).1; have h2 := h.2 g hg; omega), h.2⟩
theorem OwnE.form (h : OwnE w lo hi E v n es) : ∃ A c, v = .slice A n c := own_shape h.1
theorem OwnE.rdB (h : OwnE w lo hi E (.slice A n c) n es) (hh : hi ≤ B) : Rd w B A (edc es) := by
  rcases own_form h.1 with ⟨_, _, hx⟩ | ⟨g, c', hv, _, _⟩
  · exact .inl hx
  · injection hv with e1 _ e3
    subst e1 e3
    refine .inr ⟨⟨g, 0, none⟩, rfl, Nat.lt_of_lt_of_le (h.2 g rfl) hh, fun j u hu => ?_⟩
    have hj := (List.getElem?_eq_some_iff.1 hu).1
    have hlen := h.1.1
    rw [Addr.add_lit, Nat.zero_add, h.1.cellAt j (by omega)]
    exact hu
theorem add_moreE (ad : Addr) (k : Nat) : ∀ j, 0 < j → ad.add (k + j) = ⟨(ad.add k).block, (ad.add k).off + j, none⟩ := by
  intro j hj
  unfold Addr.add
  rw [if_neg (by omega)]
  split
  · subst_vars; simp
  · simp; omega
/-- the six cells of an element -/
theorem Rd.ed (h : Rd w B A (edc es)) {k : Nat} (hk : k < es.length) : ∃ ad, A = some ad ∧ ad.block < B ∧ w.cell? (ad.add (k * 6)) = some (.int .i64 es[k].x) ∧ w.cell? ⟨(ad.add (k * 6)).block, (ad.add (k * 6)).off + 1, none⟩ = some (.int .i64 es[k].y) ∧ w.cell? ⟨(ad.add (k * 6)).block, (ad.add (k * 6)).off + 2, none⟩ = some (.int .i64 es[k].u) ∧
    w.cell? ⟨(ad.add (k * 6)).block, (ad.add (k * 6)).off + 3, none⟩ = some (.int .i64 es[k].v) ∧ w.cell? ⟨(ad.add (k * 6)).block, (ad.add (k * 6)).off + 4, none⟩ = some (.int .i64 es[k].k) ∧ w.cell? ⟨(ad.add (k * 6)).block, (ad.add (k * 6)).off + 5, none⟩ = some (.bool es[k].l) := by
  rcases h with e | ⟨ad, e, hb, hc⟩
  · have := edc_len es
    rw [e] at this
    simp at this; omega
  · have g := fun j (hj : 0 < j) => add_moreE ad (k * 6) j hj
    refine ⟨ad, e, hb, ?_, ?_, ?_, ?_, ?_, ?_⟩
    · exact hc (k * 6) _ (edc_at hk 0 _ rfl)
    · rw [← g 1 (by omega)]; exact hc _ _ (edc_at hk 1 _ rfl)
    · rw [← g 2 (by omega)]; exact hc _ _ (edc_at hk 2 _ rfl)
    · rw [← g 3 (by omega)]; exact hc _ _ (edc_at hk 3 _ rfl)
    · rw [← g 4 (by omega)]; exact hc _ _ (edc_at hk 4 _ rfl)
    · rw [← g 5 (by omega)]; exact hc _ _ (edc_at hk 5 _ rfl)
end
end Go.Proofs.Ytdcceppednngjaa
