/-
  Lists of the call's own, with the stretch of blocks in which they lie: kept while others are written. And the laws' marks on lists of integers, told so.
-/
import Derived.Test.YtdcceppednngjaaMem
namespace Go.Proofs.Ytdcceppednngjaa
open Go.RowKit
set_option linter.unusedVariables false

/-- the slice value v reads xs, from the head of a cell row of the call's own, in a block from lo up to hi; its spare room may end before the row does -/
def Own (w : World) (lo hi : Nat) (E : TypeId) (v : Value) (n : Nat) (xs : List Value) : Prop :=
  xs.length = n ∧ ((v = .slice none 0 0 ∧ n = 0) ∨ ∃ g c cur, v = .slice (some ⟨g, 0, none⟩) n c ∧ lo ≤ g ∧ g < hi ∧ n ≤ cur.size ∧ cur.size ≤ maxLen ∧ w.heap[g]? = some (.cells cur E (0, 0)) ∧ cur.toList.take n = xs ∧ n ≤ c ∧ c ≤ maxLen)
/-- block g holds the integers zs, and nothing besides -/
def Blk (w : World) (g : Nat) (E : TypeId) (zs : List Int) : Prop := w.ownsRow g E 1 (.slice (some ⟨g, 0, none⟩) zs.length zs.length) zs.length (iv zs)
/-- outside the blocks from lo up to hi nothing has turned -/
structure Aside (lo hi : Nat) (w w' : World) : Prop where
  os : w'.os = w.os
  tape : w'.tape = w.tape
  output : w'.output = w.output
  size : w.heap.size ≤ w'.heap.size
  block : ∀ k, k < w.heap.size → (k < lo ∨ hi ≤ k) → w'.heap[k]? = w.heap[k]?
section
variable {w w' w'' : World} {lo hi lo' hi' n c B : Nat} {E : TypeId} {v : Value} {xs : List Value} {A : Option Addr}
theorem Own.of_row (h : w.ownsRow lo E 1 v n xs) (hh : w.heap.size ≤ hi) : Own w lo hi E v n xs := by
  refine ⟨by have := h.1; omega, ?_⟩
  rcases h.2 with hn | ⟨g, c, cur, rfl, hbg, hg, hnc, hcm, hcs, ht⟩
  · exact .inl hn
  · have hgs : g < w.heap.size := (Array.getElem?_eq_some_iff.1 hg).1
    exact .inr ⟨g, c, cur, rfl, hbg, by omega, by omega, by omega, hg, by simpa using ht, by omega, by omega⟩
theorem Own.of (h : w'.ownsRow w.heap.size E 1 v n xs) : Own w' w.heap.size w'.heap.size E v n xs := Own.of_row h (Nat.le_refl _)
theorem Own.nil (w : World) (lo hi : Nat) (E : TypeId) : Own w lo hi E (.slice none 0 0) 0 [] := ⟨rfl, .inl ⟨rfl, rfl⟩⟩
theorem Own.below (h : Own w lo hi E v n xs) (hb : Below B w w') (hh : hi ≤ B) : Own w' lo hi E v n xs := by
  refine ⟨h.1, ?_⟩
  rcases h.2 with hn | ⟨g, c, cur, rfl, hbg, hgh, h1, h2, hg, r⟩
  · exact .inl hn
  · exact .inr ⟨g, c, cur, rfl, hbg, hgh, h1, h2, by rw [hb.block g (by omega)]; exact hg, r⟩
theorem Own.aside (h : Own w lo hi E v n xs) (ha : Aside lo' hi' w w') (hd : hi ≤ lo' ∨ hi' ≤ lo) : Own w' lo hi E v n xs := by
  refine ⟨h.1, ?_⟩
  rcases h.2 with hn | ⟨g, c, cur, rfl, hbg, hgh, h1, h2, hg, r⟩
  · exact .inl hn
  · have hgs : g < w.heap.size := (Array.getElem?_eq_some_iff.1 hg).1
    exact .inr ⟨g, c, cur, rfl, hbg, hgh, h1, h2, by rw [ha.block g hgs (by omega)]; exact hg, r⟩
theorem Own.wider (h : Own w lo hi E v n xs) (hl : lo' ≤ lo) (hh : hi ≤ hi') : Own w lo' hi' E v n xs := by
  refine ⟨h.1, ?_⟩
  rcases h.2 with hn | ⟨g, c, cur, rfl, hbg, hgh, r⟩
  · exact .inl hn
  · exact .inr ⟨g, c, cur, rfl, by omega, by omega, r⟩
/-- how far a list's spare room goes -/
theorem Own.cap (h : Own w lo hi E (.slice A n c) n xs) : n ≤ c ∧ c ≤ maxLen := by
  rcases h.2 with ⟨hv, hn⟩ | ⟨g, c', cur, hv, _, _, _, _, _, _, h1, h2⟩
  · injection hv with _ _ hv
    subst hn; subst hv
    exact ⟨Nat.le_refl _, Nat.zero_le _⟩
  · injection hv with _ _ hv
    subst hv
    exact ⟨h1, h2⟩
theorem Own.len (h : Own w lo hi E v n xs) : xs.length = n := h.1
theorem Own.form (h : Own w lo hi E v n xs) : ∃ A c, v = .slice A n c := by
  rcases h.2 with ⟨rfl, rfl⟩ | ⟨g, c, cur, rfl, _⟩
  · exact ⟨_, _, rfl⟩
  · exact ⟨_, _, rfl⟩
/-- the cut's whole row -/
theorem Own.row (h : Own w lo hi E v n xs) : (v = .slice none 0 0 ∧ n = 0) ∨ ∃ g c ys, v = .slice (some ⟨g, 0, none⟩) n c ∧ lo ≤ g ∧ g < hi ∧ n ≤ ys.length ∧ ys.take n = xs ∧ w.ownsRow g E 1 (.slice (some ⟨g, 0, none⟩) ys.length ys.length) ys.length ys := by
  rcases h.2 with hn | ⟨g, c, cur, rfl, hbg, hgh, h1, h2, hg, r, _⟩
  · exact .inl hn
  · exact .inr ⟨g, c, cur.toList, rfl, hbg, hgh, by simpa using h1, r, by simp, .inr ⟨g, _, cur, rfl, Nat.le_refl _, hg, Nat.le_refl _, by simpa using h2, by simp, List.take_of_length_le (by simp)⟩⟩
theorem Own.rd (h : Own w lo hi E (.slice A n c) n xs) : Rd w w.heap.size A xs := by
  rcases h.row with ⟨h1, h2⟩ | ⟨g, c', ys, h1, _, _, hl, ht, o⟩
  · subst h2
    exact .inl (List.eq_nil_of_length_eq_zero h.1)
  · injection h1 with h1 _ _
    subst h1
    refine .inr ⟨_, rfl, (o.lt g rfl).2, fun k u hu => o.cells rfl k u ?_⟩
    rw [← ht, List.getElem?_take] at hu
    split at hu
    · exact hu
    · cases hu
theorem Own.rdB (h : Own w lo hi E (.slice A n c) n xs) (hh : hi ≤ B) : Rd w B A xs := by
  rcases h.row with ⟨h1, h2⟩ | ⟨g, c', ys, h1, _, hgh, hl, ht, o⟩
  · subst h2
    exact .inl (List.eq_nil_of_length_eq_zero h.1)
  · injection h1 with h1 _ _
    subst h1
    refine .inr ⟨_, rfl, by show g < B; omega, fun k u hu => o.cells rfl k u ?_⟩
    rw [← ht, List.getElem?_take] at hu
    split at hu
    · exact hu
    · cases hu
theorem Aside.refl (w : World) : Aside lo hi w w := ⟨rfl, rfl, rfl, Nat.le_refl _, fun _ _ _ => rfl⟩
theorem Aside.trans (h : Aside lo hi w w') (k : Aside lo hi w' w'') : Aside lo hi w w'' :=
  ⟨k.os.trans h.os, k.tape.trans h.tape, k.output.trans h.output, Nat.le_trans h.size k.size, fun i hi' hd => (k.block i (by have := h.size; omega) hd).trans (h.block i hi' hd)⟩
theorem Aside.setCell (h : Aside lo hi w w') {a : Addr} (h1 : lo ≤ a.block) (h2 : a.block < hi) (u : Value) : Aside lo hi w (w'.setCell a u) :=
  h.trans ⟨rfl, rfl, rfl, by simp [World.setCell], fun k _ hd => Below.heap_setCell _ _ _ _ (by omega)⟩
theorem Aside.below (h : Aside lo hi w w') (hB : B ≤ lo) (hs : B ≤ w.heap.size) : Below B w w' :=
  ⟨h.os, h.tape, h.output, h.size, fun k hk => h.block k (by omega) (by omega)⟩
end
section
variable {w w' : World} {lo hi lo' hi' B g : Nat} {E : TypeId} {zs : List Int}
theorem Blk.lt (h : Blk w g E zs) : g < w.heap.size := (World.ownsRow.lt h g rfl).2
theorem Blk.cell (h : Blk w g E zs) {j : Nat} (hj : j < zs.length) : w.cell? ⟨g, j, none⟩ = some (.int .i64 zs[j]) := by
  rw [h.cellAt j (by omega), List.getElem?_eq_getElem (by rw [iv_len]; exact hj), iv_at hj]
theorem Blk.set (h : Blk w g E zs) (j : Nat) (d : Int) : Blk (w.setCell ⟨g, j, none⟩ (.int .i64 d)) g E (zs.set j d) := by
  have := (h.stored j (.int .i64 d)).1
  unfold Blk
  rwa [List.length_set, show iv (zs.set j d) = (iv zs).set j (.int .i64 d) by simp [iv, List.map_set]]
theorem Blk.aside (h : Blk w g E zs) (ha : Aside lo hi w w') (hd : g < lo ∨ hi ≤ g) : Blk w' g E zs := by
  refine ⟨h.1, ?_⟩
  rcases h.2 with hn | ⟨g', c, cur, hv, hbg, hg, r⟩
  · exact .inl hn
  · have hgs : g' < w.heap.size := (Array.getElem?_eq_some_iff.1 hg).1
    have e : g' = g := by injection hv with hv _ _; injection hv with hv; injection hv with hv; exact hv.symm
    exact .inr ⟨g', c, cur, hv, hbg, by rw [ha.block g' hgs (by omega)]; exact hg, r⟩
theorem Blk.below (h : Blk w g E zs) (hb : Below B w w') (hd : g < B) : Blk w' g E zs := by
  refine ⟨h.1, ?_⟩
  rcases h.2 with hn | ⟨g', c, cur, hv, hbg, hg, r⟩
  · exact .inl hn
  · have e : g' = g := by injection hv with hv _ _; injection hv with hv; injection hv with hv; exact hv.symm
    exact .inr ⟨g', c, cur, hv, hbg, by rw [hb.block g' (by omega)]; exact hg, r⟩
theorem Blk.own (h : Blk w g E zs) (c m : Nat) (hm : m ≤ zs.length) (hmc : m ≤ c ∧ c ≤ zs.length := by omega) : Own w g (g + 1) E (.slice (some ⟨g, 0, none⟩) m c) m (iv (zs.take m)) := by
  refine ⟨by rw [iv_len, List.length_take]; omega, ?_⟩
  rcases h.2 with ⟨h', _⟩ | ⟨g', c', cur, hv, hbg, hg, hnc, hcm, hcs, ht⟩
  · cases h'
  · have e : g' = g := by injection hv with hv _ _; injection hv with hv; injection hv with hv; exact hv.symm
    subst e
    have hl : iv zs = cur.toList.take zs.length := by simpa using ht.symm
    refine .inr ⟨g', c, cur, rfl, Nat.le_refl _, Nat.lt_succ_self _, by omega, by omega, hg, ?_, by omega, by omega⟩
    rw [show iv (zs.take m) = (iv zs).take m by simp [iv, List.map_take], hl, List.take_take]
    congr 1; omega
theorem Blk.rd (h : Blk w g E zs) : Rd w (g + 1) (some ⟨g, 0, none⟩) (iv zs) := by
  refine .inr ⟨_, rfl, Nat.lt_succ_self _, fun k u hu => h.cells rfl k u hu⟩
theorem Blk.heap (h : Blk w g E zs) : w.heap[g]? = some (.cells (iv zs).toArray E (0, 0)) := by
  rcases h.2 with ⟨h', _⟩ | ⟨g', c', cur, hv, hbg, hg, hnc, hcm, hcs, ht⟩
  · cases h'
  · have e : g' = g := by injection hv with hv _ _; injection hv with hv; injection hv with hv; exact hv.symm
    have e2 : c' = zs.length := by injection hv with _ _ hv; exact hv.symm
    subst e e2
    have hl : iv zs = cur.toList := by
      rw [← ht, List.take_of_length_le]
      rw [Array.length_toList]; omega
    rw [hg, hl]
end
theorem Below.aside {w w' : World} {B : Nat} (h : Below B w w') (lo hi : Nat) (hlo : lo ≤ B) (hs : w.heap.size ≤ hi) : Aside lo hi w w' :=
  ⟨h.os, h.tape, h.output, h.size, fun k hk hd => h.block k (by omega)⟩
theorem Aside.wide {w w' : World} {lo hi lo' hi' : Nat} (h : Aside lo hi w w') (h1 : lo' ≤ lo) (h2 : hi ≤ hi') : Aside lo' hi' w w' :=
  ⟨h.os, h.tape, h.output, h.size, fun k hk hd => h.block k hk (by omega)⟩
/-- a list of integers that a function is handed: readable below block B -/
def RdI (w : World) (B : Nat) (A : Option Addr) (n : Nat) (xs : List Int) : Prop := xs.length = n ∧ Rd w B A (iv xs) ∧ n ≤ 1048576 ∧ ∀ d ∈ xs, (Lit.int .i64 d).wf = true
theorem RdI.below {w w' : World} {B : Nat} {A : Option Addr} {n : Nat} {xs : List Int} (h : RdI w B A n xs) (hb : Below B w w') : RdI w' B A n xs := ⟨h.1, h.2.1.below hb, h.2.2⟩
theorem RdI.at_ {w : World} {B : Nat} {A : Option Addr} {n : Nat} {xs : List Int} (h : RdI w B A n xs) {w' : World} {B' : Nat} {A' : Option Addr} (hr : Rd w' B' A' (iv xs)) : RdI w' B' A' n xs := ⟨h.1, hr, h.2.2⟩
theorem IsRow.rdI {w : World} {a : Option Addr} {len cap : Nat} {zs : List Int} (h : IsRow .i64 w a len cap zs) (hl : len ≤ 1048576) : ∃ xs, RdI w w.heap.size a len xs := by
  obtain ⟨h1, h2, _, h3⟩ := h.rd
  exact ⟨zs.take len, h2, h1, hl, h3⟩
end Go.Proofs.Ytdcceppednngjaa
