/-
  Lists of vectors in memory: two cells an element. What is readable, what is the call's own.
-/
import Derived.Test.YtdcceppednngjaaOwn
import Derived.Test.YtdcceppednngjaaHulP
namespace Go.Proofs.Ytdcceppednngjaa
open Go.RowKit
set_option linter.unusedVariables false

theorem Try.infoVec : (Try.prog.info? 27).map (fun i => (i.zero, i.size, i.bytes)) = some (some (.agg #[.int .i64 0, .int .i64 0]), 2, 16) := by kernel_rfl
/-- the vectors of a list, as cells -/
def fl (vs : List V2) : List Value := vs.flatMap fun v => [.int .i64 v.1, .int .i64 v.2]
theorem fl_cons (v : V2) (vs : List V2) : fl (v :: vs) = .int .i64 v.1 :: .int .i64 v.2 :: fl vs := rfl
theorem fl_append (xs ys : List V2) : fl (xs ++ ys) = fl xs ++ fl ys := by simp [fl]
theorem fl_len (vs : List V2) : (fl vs).length = vs.length * 2 := by
  induction vs with
  | nil => rfl
  | cons v vs ih => rw [fl_cons]; simp only [List.length_cons, ih]; omega
theorem fl_at {vs : List V2} {k : Nat} (h : k < vs.length) : (fl vs)[k * 2]? = some (.int .i64 vs[k].1) ∧ (fl vs)[k * 2 + 1]? = some (.int .i64 vs[k].2) := by
  induction vs generalizing k with
  | nil => simp at h
  | cons v vs ih =>
    rw [fl_cons]
    match k, h with
    | 0, _ => exact ⟨rfl, rfl⟩
    | k + 1, h =>
      have := ih (k := k) (by simpa using h)
      rw [Nat.add_mul, Nat.one_mul]
      simpa using this
def wfV (vs : List V2) : Prop := ∀ v ∈ vs, (Lit.int .i64 v.1).wf = true ∧ (Lit.int .i64 v.2).wf = true
theorem wfV_at {vs : List V2} (h : wfV vs) {k : Nat} (hk : k < vs.length) : (Lit.int .i64 vs[k].1).wf = true ∧ (Lit.int .i64 vs[k].2).wf = true := h _ (List.getElem_mem hk)
/-- a list of vectors that can be read below block B -/
def RdV (w : World) (B : Nat) (A : Option Addr) (n : Nat) (vs : List V2) : Prop := vs.length = n ∧ Rd w B A (fl vs) ∧ n ≤ 1048576 ∧ wfV vs
theorem RdV.below {w w' : World} {B : Nat} {A : Option Addr} {n : Nat} {vs : List V2} (h : RdV w B A n vs) (hb : Below B w w') : RdV w' B A n vs := ⟨h.1, h.2.1.below hb, h.2.2⟩
theorem RdV.wider {w : World} {B B' : Nat} {A : Option Addr} {n : Nat} {vs : List V2} (h : RdV w B A n vs) (hB : B ≤ B') : RdV w B' A n vs := ⟨h.1, h.2.1.wider hB, h.2.2⟩
theorem RdV.up {w w' : World} {A : Option Addr} {n : Nat} {vs : List V2} (h : RdV w w.heap.size A n vs) (hb : Below w.heap.size w w') : RdV w' w'.heap.size A n vs := (h.below hb).wider hb.size
theorem RdV.at_ {w : World} {B : Nat} {A : Option Addr} {n : Nat} {vs : List V2} (h : RdV w B A n vs) {w' : World} {B' : Nat} {A' : Option Addr} (hr : Rd w' B' A' (fl vs)) : RdV w' B' A' n vs := ⟨h.1, hr, h.2.2⟩
theorem add_next (ad : Addr) (k : Nat) : ad.add (k + 1) = ⟨(ad.add k).block, (ad.add k).off + 1, none⟩ := by
  unfold Addr.add
  rw [if_neg (by omega)]
  split
  · subst_vars; rfl
  · simp; omega
theorem Rd.vec {w : World} {B : Nat} {A : Option Addr} {vs : List V2} (h : Rd w B A (fl vs)) {k : Nat} (hk : k < vs.length) :
    ∃ ad, A = some ad ∧ ad.block < B ∧ w.cell? (ad.add (k * 2)) = some (.int .i64 vs[k].1) ∧ w.cell? ⟨(ad.add (k * 2)).block, (ad.add (k * 2)).off + 1, none⟩ = some (.int .i64 vs[k].2) := by
  rcases h with e | ⟨ad, e, hb, hc⟩
  · have := fl_len vs
    rw [e] at this
    simp at this; omega
  · exact ⟨ad, e, hb, hc _ _ (fl_at hk).1, by rw [← add_next]; exact hc _ _ (fl_at hk).2⟩
/-- a list of vectors that came in -/
def IsVecs (w : World) (a : Option Addr) (len cap : Nat) (zs : List V2) : Prop :=
  (a = none ∧ len = 0 ∧ cap = 0 ∧ zs = []) ∨
  ∃ x, a = some x ∧ len ≤ cap ∧ cap ≤ maxLen ∧ zs.length = len ∧ (∀ i (h : i < zs.length), w.cell? (x.add (i * 2)) = some (.int .i64 zs[i].1) ∧ w.cell? (x.add (i * 2 + 1)) = some (.int .i64 zs[i].2)) ∧ wfV zs
theorem IsVecs.rd {w : World} {a : Option Addr} {len cap : Nat} {zs : List V2} (h : IsVecs w a len cap zs) :
    Rd w w.heap.size a (fl zs) ∧ zs.length = len ∧ len ≤ maxLen ∧ wfV zs := by
  rcases h with ⟨rfl, rfl, rfl, rfl⟩ | ⟨x, rfl, hl, hm, hz, hc, hs⟩
  · exact ⟨.inl rfl, rfl, Nat.zero_le _, fun s hs => by simp at hs⟩
  · refine ⟨?_, hz, Nat.le_trans hl hm, hs⟩
    by_cases h0 : zs.length = 0
    · left
      rw [List.eq_nil_of_length_eq_zero h0]; rfl
    · refine .inr ⟨x, rfl, ?_, fun k u hu => ?_⟩
      · have := World.block_lt_of_cell? w _ (hc 0 (by omega)).1
        rwa [add_block] at this
      · have hk : k < (fl zs).length := (List.getElem?_eq_some_iff.1 hu).1
        rw [fl_len] at hk
        rcases Nat.mod_two_eq_zero_or_one k with e | e
        · have ek : k = k / 2 * 2 := by omega
          rw [ek] at hu ⊢
          rw [(fl_at (k := k / 2) (by omega)).1] at hu
          rw [← hu]; exact (hc (k / 2) (by omega)).1
        · have ek : k = k / 2 * 2 + 1 := by omega
          rw [ek] at hu ⊢
          rw [(fl_at (k := k / 2) (by omega)).2] at hu
          rw [← hu]; exact (hc (k / 2) (by omega)).2
theorem IsVecs.rdV {w : World} {a : Option Addr} {len cap : Nat} {zs : List V2} (h : IsVecs w a len cap zs) (hl : len ≤ 1048576) : RdV w w.heap.size a len zs := ⟨h.rd.2.1, h.rd.1, hl, h.rd.2.2.2⟩

/-- a list of vectors of the call's own, in a block from lo up to hi -/
def OwnV (w : World) (lo hi : Nat) (E : TypeId) (v : Value) (n : Nat) (vs : List V2) : Prop := w.ownsRow lo E 2 v n (fl vs) ∧ ∀ g, v.ownBlock = some g → g < hi
section
variable {w w' : World} {lo hi lo' hi' n c B : Nat} {E : TypeId} {v : Value} {vs : List V2} {A : Option Addr}
theorem OwnV.of (h : w'.ownsRow w.heap.size E 2 v n (fl vs)) : OwnV w' w.heap.size w'.heap.size E v n vs := ⟨h, fun g hg => (h.lt g hg).2⟩
theorem OwnV.of_row (h : w.ownsRow lo E 2 v n (fl vs)) (hh : w.heap.size ≤ hi) : OwnV w lo hi E v n vs := ⟨h, fun g hg => Nat.lt_of_lt_of_le (h.lt g hg).2 hh⟩
theorem OwnV.nil (w : World) (lo hi : Nat) (E : TypeId) : OwnV w lo hi E (.slice none 0 0) 0 [] := ⟨World.ownsRow_nil _ _ _ _, fun g hg => by simp [Value.ownBlock] at hg⟩
theorem OwnV.len (h : OwnV w lo hi E v n vs) : vs.length = n := by
  have := h.1.1
  rw [fl_len] at this; omega
theorem OwnV.below (h : OwnV w lo hi E v n vs) (hb : Below B w w') (hh : hi ≤ B) : OwnV w' lo hi E v n vs := ⟨own_below h.1 hb fun g hg => Nat.lt_of_lt_of_le (h.2 g hg) hh, h.2⟩
theorem OwnV.aside (h : OwnV w lo hi E v n vs) (ha : Aside lo' hi' w w') (hd : hi ≤ lo' ∨ hi' ≤ lo) : OwnV w' lo hi E v n vs := by
  refine ⟨⟨h.1.1, ?_⟩, h.2⟩
  rcases h.1.2 with hn | ⟨g, c, cur, rfl, hbg, hg, r⟩
  · exact .inl hn
  · have hgs : g < w.heap.size := (Array.getElem?_eq_some_iff.1 hg).1
    have hgh : g < hi := h.2 g rfl
    exact .inr ⟨g, c, cur, rfl, hbg, by rw [ha.block g hgs (by omega)]; exact hg, r⟩
theorem OwnV.wider (h : OwnV w lo hi E v n vs) (hl : lo' ≤ lo) (hh : hi ≤ hi') : OwnV w lo' hi' E v n vs := ⟨own_lower h.1 hl, fun g hg => Nat.lt_of_lt_of_le (h.2 g hg) hh⟩
theorem OwnV.form (h : OwnV w lo hi E v n vs) : ∃ A c, v = .slice A n c := by
  rcases h.1.2 with ⟨rfl, rfl⟩ | ⟨g, c, cur, rfl, _⟩
  · exact ⟨_, _, rfl⟩
  · exact ⟨_, _, rfl⟩
theorem OwnV.rdB (h : OwnV w lo hi E (.slice A n c) n vs) (hh : hi ≤ B) : Rd w B A (fl vs) := by
  rcases h.1.2 with ⟨hv, hn⟩ | ⟨g, c', cur, hv, hbg, hg, hnc, hcm, r⟩
  · left
    have := h.len
    rw [List.eq_nil_of_length_eq_zero (by omega : vs.length = 0)]; rfl
  · injection hv with e1 e2 e3
    subst e1
    exact .inr ⟨_, rfl, Nat.lt_of_lt_of_le (h.2 g rfl) hh, h.1.cells (g := g) rfl⟩
theorem OwnV.rd (h : OwnV w lo hi E (.slice A n c) n vs) : Rd w w.heap.size A (fl vs) := by
  rcases h.1.2 with ⟨hv, hn⟩ | ⟨g, c', cur, hv, hbg, hg, hnc, hcm, r⟩
  · left
    have := h.len
    rw [List.eq_nil_of_length_eq_zero (by omega : vs.length = 0)]; rfl
  · injection hv with e1 e2 e3
    subst e1
    exact .inr ⟨_, rfl, (Array.getElem?_eq_some_iff.1 hg).1, h.1.cells (g := g) rfl⟩
theorem OwnV.rdV (h : OwnV w lo hi E (.slice A n c) n vs) (hn : n ≤ 1048576) (hw : wfV vs) : RdV w w.heap.size A n vs := ⟨h.len, h.rd, hn, hw⟩
theorem OwnV.cap (h : OwnV w lo hi E (.slice A n c) n vs) : n ≤ c ∧ c ≤ maxLen := by
  rcases h.1.2 with ⟨hv, hn⟩ | ⟨g, c', cur, hv, hbg, hg, hnc, hcm, r⟩
  · injection hv with _ _ hv
    subst hn; subst hv
    exact ⟨Nat.le_refl _, Nat.zero_le _⟩
  · injection hv with _ _ hv
    subst hv
    exact ⟨hnc, hcm⟩
end
end Go.Proofs.Ytdcceppednngjaa
