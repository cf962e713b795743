/-
  The texts PolM, HulM, put together; each has its own heading below. No condition of ours.
-/
import Derived.Test.YtocllmaikngoaaaDoorVecM
import Derived.Test.YtocllmaikngoaaaDoorPI
/-
  Polygons, said of lists of vectors.
-/


namespace Go.Proofs.YtocllmaikngoaaaDoor
open Go.RowKit
set_option linter.unusedVariables false
def vecV (v : V2) : Bool := vecB v.1 v.2
def tV (a b c : V2) : Int := turnI a.1 a.2 b.1 b.2 c.1 c.2
def atV (l : List V2) (i : Nat) : V2 := l.getD i (0, 0)
theorem atV_eq {l : List V2} {i : Nat} (h : i < l.length) : atV l i = l[i] := by simp [atV, List.getD, List.getElem?_eq_getElem h]
/-- corner j lies left of the edge that begins at corner i -/
def okE (l : List V2) (i j : Nat) : Prop := j ≠ i → j ≠ (i + 1) % l.length → 0 < tV (atV l i) (atV l ((i + 1) % l.length)) (atV l j)
def polyP (l : List V2) : Prop := 3 ≤ l.length ∧ l.length ≤ 16 ∧ ∀ i, i < l.length → ∀ j, j < l.length → okE l i j
noncomputable def polyB (l : List V2) : Bool := @decide (polyP l) (Classical.propDecidable _)
theorem polyB_iff {l : List V2} : polyB l = true ↔ polyP l := by unfold polyB; exact @decide_eq_true_iff _ (Classical.propDecidable _)
theorem polyB_no {l : List V2} (h : ¬ polyP l) : polyB l = false := by
  cases e : polyB l with
  | false => rfl
  | true => exact (h (polyB_iff.1 e)).elim
theorem tV_bad {a b c : V2} (h : vecV a = false ∨ vecV b = false ∨ vecV c = false) : tV a b c = 0 := by
  unfold tV turnI
  unfold vecV at h
  rw [if_neg]
  rcases h with h | h | h <;> simp [h]
theorem tV_tn {a b c : V2} (ha : vecV a = true) (hb : vecV b = true) (hc : vecV c = true) : tV a b c = tn a b c := by
  unfold tV turnI tn
  unfold vecV at ha hb hc
  rw [if_pos (by simp [ha, hb, hc])]
/-- each corner of a polygon is valid -/
theorem poly_vec {l : List V2} (h : polyP l) {k : Nat} (hk : k < l.length) : vecV (atV l k) = true := by
  obtain ⟨h3, _, hE⟩ := h
  -- corner k stands right of the edge from the corner behind it
  have h1 : (k + 1) % l.length < l.length := Nat.mod_lt _ (by omega)
  have h2 : ((k + 1) % l.length + 1) % l.length < l.length := Nat.mod_lt _ (by omega)
  have n1 : k ≠ (k + 1) % l.length := by
    by_cases e : k + 1 < l.length
    · rw [Nat.mod_eq_of_lt e]; omega
    · have : k + 1 = l.length := by omega
      rw [this, Nat.mod_self]; omega
  have n2 : k ≠ ((k + 1) % l.length + 1) % l.length := by
    by_cases e : k + 1 < l.length
    · rw [Nat.mod_eq_of_lt e]
      by_cases e2 : k + 1 + 1 < l.length
      · rw [Nat.mod_eq_of_lt e2]; omega
      · have : k + 1 + 1 = l.length := by omega
        rw [this, Nat.mod_self]; omega
    · have : k + 1 = l.length := by omega
      rw [this, Nat.mod_self, Nat.mod_eq_of_lt (by omega)]; omega
  have := hE _ h1 _ hk n1 n2
  cases e : vecV (atV l k) with
  | true => rfl
  | false => rw [tV_bad (.inr (.inr e))] at this; exact absurd this (Int.lt_irrefl 0)
/-- all of them are valid -/
def allV (l : List V2) : Bool := l.all vecV
def negL (l : List V2) : List V2 := if allV l then l.map ng else []
theorem allV_at {l : List V2} (h : allV l = true) {k : Nat} (hk : k < l.length) : vecV l[k] = true := List.all_eq_true.1 h _ (List.getElem_mem hk)
theorem allV_no {l : List V2} {k : Nat} (hk : k < l.length) (h : vecV l[k] = false) : allV l = false := by
  cases e : allV l with
  | false => rfl
  | true => rw [allV_at e hk] at h; cases h
theorem map_take_snoc (f : V2 → V2) {l : List V2} {k : Nat} (hk : k < l.length) : (l.take (k + 1)).map f = (l.take k).map f ++ [f l[k]] := by
  rw [List.take_succ_eq_append_getElem hk, List.map_append]; rfl
theorem neg_wf {v : V2} (h : vecV v = true) : (Lit.int .i64 (ng v).1).wf = true ∧ (Lit.int .i64 (ng v).2).wf = true := by
  have := vecB_bounds h
  have h1 : IntKind.i64.min = -9223372036854775808 := rfl
  have h2 : IntKind.i64.max = 9223372036854775807 := rfl
  unfold ng
  constructor <;> (simp [Lit.wf, h1, h2]; omega)
end Go.Proofs.YtocllmaikngoaaaDoor

/-
  The hull of a list of vectors, said once for both texts: sorted without repetition, two chains.
-/

namespace Go.Proofs.YtocllmaikngoaaaDoor
open Go.RowKit
set_option linter.unusedVariables false
def insV (p : V2) : List V2 → List V2
  | [] => [p]
  | a :: r => if lt2 a p then a :: insV p r else if a = p then a :: r else p :: a :: r
def srtV (l : List V2) : List V2 := l.foldr insV []
theorem insV_mem (p a : V2) : ∀ l, a ∈ insV p l ↔ a = p ∨ a ∈ l := by
  intro l
  induction l with
  | nil => simp [insV]
  | cons b r ih =>
    unfold insV
    split
    · rw [List.mem_cons, ih, List.mem_cons]
      constructor
      · rintro (h | h | h)
        · exact .inr (.inl h)
        · exact .inl h
        · exact .inr (.inr h)
      · rintro (h | h | h)
        · exact .inr (.inl h)
        · exact .inl h
        · exact .inr (.inr h)
    · split
      · rename_i h; subst h
        simp
      · simp
theorem insV_asc (p : V2) : ∀ l, asc l → asc (insV p l) := by
  intro l
  induction l with
  | nil => intro _; simp [insV, asc]
  | cons b r ih =>
    intro h
    have h' := List.pairwise_cons.1 h
    unfold insV
    split
    · rename_i hlt
      refine List.pairwise_cons.2 ⟨fun x hx => ?_, ih h'.2⟩
      rcases (insV_mem p x r).1 hx with rfl | hx
      · exact hlt
      · exact h'.1 x hx
    · split
      · exact h
      · rename_i h1 h2
        have hpb : lt2 p b := (lt_tri b p).resolve_left h1 |>.resolve_left h2
        refine List.pairwise_cons.2 ⟨fun x hx => ?_, h⟩
        rcases List.mem_cons.1 hx with rfl | hx
        · exact hpb
        · exact lt_trans hpb (h'.1 x hx)
theorem srtV_mem (l : List V2) (a : V2) : a ∈ srtV l ↔ a ∈ l := by
  induction l with
  | nil => simp [srtV]
  | cons b r ih => show a ∈ insV b (srtV r) ↔ _; rw [insV_mem, ih, List.mem_cons]
theorem srtV_asc (l : List V2) : asc (srtV l) := by
  induction l with
  | nil => simp [srtV, asc]
  | cons b r ih => exact insV_asc b _ ih
theorem srtV_of {l xs : List V2} (h : asc xs) (hm : ∀ a, a ∈ xs ↔ a ∈ l) : xs = srtV l := asc_unique h (srtV_asc l) fun a => (hm a).trans (srtV_mem l a).symm
theorem srtV_len (l : List V2) : (srtV l).length ≤ l.length := nodup_le (asc_nodup (srtV_asc l)) fun x hx => (srtV_mem l x).1 hx
/-- the hull of sorted points -/
def hul2 (xs : List V2) : List V2 := if xs.length < 2 then xs else outL (chain xs) (hiC xs)
def hullV (l : List V2) : List V2 := if l.length ≤ 64 ∧ allV l = true then hul2 (srtV l) else []
theorem hul2_two (xs : List V2) (h : xs.length < 3) : hul2 xs = xs := by
  match xs, h with
  | [], _ => rfl
  | [a], _ => rfl
  | [a, b], _ => rfl
theorem push_len (T : List V2) (p : V2) : (push T p).length ≤ T.length + 1 := by
  induction T with
  | nil => simp [push]
  | cons b T ih =>
    match T, ih with
    | [], _ => simp [push]
    | a :: s, ih =>
      unfold push
      split
      · simp only [List.length_cons] at ih ⊢; omega
      · simp
theorem chain_len (xs : List V2) : (chain xs).length ≤ xs.length := by
  induction xs using snoc_ind with
  | h0 => simp [chain]
  | h1 xs p ih =>
    rw [chain_snoc]
    have := push_len (chain xs) p
    simp; omega
theorem push_mem (T : List V2) (p x : V2) (h : x ∈ push T p) : x = p ∨ x ∈ T := by
  obtain ⟨r, e, hr⟩ := push_head T p
  rw [e] at h
  rcases List.mem_cons.1 h with h | h
  · exact .inl h
  · exact .inr (hr x h)
theorem chain_mem (xs : List V2) : ∀ x ∈ chain xs, x ∈ xs := by
  induction xs using snoc_ind with
  | h0 => intro x hx; simp [chain] at hx
  | h1 xs p ih =>
    intro x hx
    rw [chain_snoc] at hx
    rcases push_mem _ _ _ hx with rfl | h
    · simp
    · exact List.mem_append_left _ (ih x h)
/-- nothing is taken off -/
theorem push_stop {T : List V2} {p : V2} (h : ∀ b a s, T = b :: a :: s → 0 < tn a b p) : push T p = p :: T := by
  match T, h with
  | [], _ => rfl
  | [b], _ => rfl
  | b :: a :: s, h =>
    have := h b a s rfl
    unfold push
    rw [if_neg (by omega)]
theorem push_pop {b a p : V2} {s : List V2} (h : tn a b p ≤ 0) : push (b :: a :: s) p = push (a :: s) p := by
  conv => lhs; unfold push
  rw [if_pos h]
theorem chain_take_succ {l : List V2} {k : Nat} (h : k < l.length) : chain (l.take (k + 1)) = push (chain (l.take k)) l[k] := by
  rw [List.take_succ_eq_append_getElem h, chain_snoc]
theorem allV_sub {l xs : List V2} (h : allV l = true) (hs : ∀ x ∈ xs, x ∈ l) : ∀ x ∈ xs, vecV x = true := fun x hx => List.all_eq_true.1 h x (hs x hx)
theorem hul2_mem (xs : List V2) : ∀ x ∈ hul2 xs, x ∈ xs := by
  intro x hx
  unfold hul2 at hx
  split at hx
  · exact hx
  · unfold outL at hx
    rcases List.mem_append.1 hx with h | h
    · exact chain_mem _ x (List.mem_of_mem_tail (List.mem_reverse.1 h))
    · have := chain_mem _ x (List.mem_of_mem_tail (List.mem_reverse.1 h))
      exact List.mem_reverse.1 this
theorem hullV_wf {l : List V2} (hw : wfV l) : wfV (hullV l) := by
  intro v hv
  unfold hullV at hv
  split at hv
  · exact hw v ((srtV_mem l v).1 (hul2_mem _ v hv))
  · simp at hv
theorem hullV_len (l : List V2) : (hullV l).length ≤ 1048576 := by
  unfold hullV
  split
  · rename_i h
    have := srtV_len l
    unfold hul2
    split
    · omega
    · unfold outL
      have h1 := chain_len (srtV l)
      have h2 := chain_len (srtV l).reverse
      simp [hiC] at h2 ⊢; omega
  · simp
end Go.Proofs.YtocllmaikngoaaaDoor
