/-
  The hull of a list of vectors, said once for both texts: sorted without repetition, two chains.
-/
import Derived.Test.YtdagomikjblgiaaPolM
namespace Go.Proofs.Ytdagomikjblgiaa
open Go.RowKit
set_option linter.unusedVariables false
def insV (p : V2) : List V2 → List V2
  | [] => [p]
  | a :: r => if lt2 a p then a :: insV p r else if a = p then a :: r else p :: a :: r
def srtV (l : List V2) : List V2 := l.foldr insV []
theorem insV_mem (p a : V2) : ∀ l, a ∈ insV p l ↔ a = p ∨ a ∈ l := by
  intro l
  induction l with
  | nil => simp [insV]
  | cons b r ih =>
    unfold insV
    split
    · rw [List.mem_cons, ih, List.mem_cons]
      constructor
      · rintro (h | h | h)
        · exact .inr (.inl h)
        · exact .inl h
        · exact .inr (.inr h)
      · rintro (h | h | h)
        · exact .inr (.inl h)
        · exact .inl h
        · exact .inr (.inr h)
    · split
      · rename_i h; subst h
        simp
      · simp
theorem insV_asc (p : V2) : ∀ l, asc l → asc (insV p l) := by
  intro l
  induction l with
  | nil => intro _; simp [insV, asc]
  | cons b r ih =>
    intro h
    have h' := List.pairwise_cons.1 h
    unfold insV
    split
    · rename_i hlt
      refine List.pairwise_cons.2 ⟨fun x hx => ?_, ih h'.2⟩
      rcases (insV_mem p x r).1 hx with rfl | hx
      · exact hlt
      · exact h'.1 x hx
    · split
      · exact h
      · rename_i h1 h2
        have hpb : lt2 p b := (lt_tri b p).resolve_left h1 |>.resolve_left h2
        refine List.pairwise_cons.2 ⟨fun x hx => ?_, h⟩
        rcases List.mem_cons.1 hx with rfl | hx
        · exact hpb
        · exact lt_trans hpb (h'.1 x hx)
theorem srtV_mem (l : List V2) (a : V2) : a ∈ srtV l ↔ a ∈ l := by
  induction l with
  | nil => simp [srtV]
  | cons b r ih => show a ∈ insV b (srtV r) ↔ _; rw [insV_mem, ih, List.mem_cons]
theorem srtV_asc (l : List V2) : asc (srtV l) := by
  induction l with
  | nil => simp [srtV, asc]
  | cons b r ih => exact insV_asc b _ ih
theorem srtV_of {l xs : List V2} (h : asc xs) (hm : ∀ a, a ∈ xs ↔ a ∈ l) : xs = srtV l := asc_unique h (srtV_asc l) fun a => (hm a).trans (srtV_mem l a).symm
theorem srtV_len (l : List V2) : (srtV l).length ≤ l.length := nodup_le (asc_nodup (srtV_asc l)) fun x hx => (srtV_mem l x).1 hx
/-- the hull of sorted points -/
def hul2 (xs : List V2) : List V2 := if xs.length < 2 then xs else outL (chain xs) (hiC xs)
def hullV (l : List V2) : List V2 := if l.length ≤ 64 ∧ allV l = true then hul2 (srtV l) else []
theorem hul2_two (xs : List V2) (h : xs.length < 3) : hul2 xs = xs := by
  match xs, h with
  | [], _ => rfl
  | [a], _ => rfl
  | [a, b], _ => rfl
theorem push_len (T : List V2) (p : V2) : (push T p).length ≤ T.length + 1 := by
  induction T with
  | nil => simp [push]
  | cons b T ih =>
    match T, ih with
    | [], _ => simp [push]
    | a :: s, ih =>
      unfold push
      split
      · simp only [List.length_cons] at ih ⊢; omega
      · simp
theorem chain_len (xs : List V2) : (chain xs).length ≤ xs.length := by
  induction xs using snoc_ind with
  | h0 => simp [chain]
  | h1 xs p ih =>
    rw [chain_snoc]
    have := push_len (chain xs) p
    simp; omega
theorem push_mem (T : List V2) (p x : V2) (h : x ∈ push T p) : x = p ∨ x ∈ T := by
  obtain ⟨r, e, hr⟩ := push_head T p
  rw [e] at h
  rcases List.mem_cons.1 h with h | h
  · exact .inl h
  · exact .inr (hr x h)
theorem chain_mem (xs : List V2) : ∀ x ∈ chain xs, x ∈ xs := by
  induction xs using snoc_ind with
  | h0 => intro x hx; simp [chain] at hx
  | h1 xs p ih =>
    intro x hx
    rw [chain_snoc] at hx
    rcases push_mem _ _ _ hx with rfl | h
    · simp
    · exact List.mem_append_left _ (ih x h)
/-- nothing is taken off -/
theorem push_stop {T : List V2} {p : V2} (h : ∀ b a s, T = b :: a :: s → 0 < tn a b p) : push T p = p :: T := by
  match T, h with
  | [], _ => rfl
  | [b], _ => rfl
  | b :: a :: s, h =>
    have := h b a s rfl
    unfold push
    rw [if_neg (by omega)]
theorem push_pop {b a p : V2} {s : List V2} (h : tn a b p ≤ 0) : push (b :: a :: s) p = push (a :: s) p := by
  conv => lhs; unfold push
  rw [if_pos h]
theorem chain_take_succ {l : List V2} {k : Nat} (h : k < l.length) : chain (l.take (k + 1)) = push (chain (l.take k)) l[k] := by
  rw [List.take_succ_eq_append_getElem h, chain_snoc]
theorem allV_sub {l xs : List V2} (h : allV l = true) (hs : ∀ x ∈ xs, x ∈ l) : ∀ x ∈ xs, vecV x = true := fun x hx => List.all_eq_true.1 h x (hs x hx)
theorem hul2_mem (xs : List V2) : ∀ x ∈ hul2 xs, x ∈ xs := by
  intro x hx
  unfold hul2 at hx
  split at hx
  · exact hx
  · unfold outL at hx
    rcases List.mem_append.1 hx with h | h
    · exact chain_mem _ x (List.mem_of_mem_tail (List.mem_reverse.1 h))
    · have := chain_mem _ x (List.mem_of_mem_tail (List.mem_reverse.1 h))
      exact List.mem_reverse.1 this
theorem hullV_wf {l : List V2} (hw : wfV l) : wfV (hullV l) := by
  intro v hv
  unfold hullV at hv
  split at hv
  · exact hw v ((srtV_mem l v).1 (hul2_mem _ v hv))
  · simp at hv
theorem hullV_len (l : List V2) : (hullV l).length ≤ 1048576 := by
  unfold hullV
  split
  · rename_i h
    have := srtV_len l
    unfold hul2
    split
    · omega
    · unfold outL
      have h1 := chain_len (srtV l)
      have h2 := chain_len (srtV l).reverse
      simp [hiC] at h2 ⊢; omega
  · simp
end Go.Proofs.Ytdagomikjblgiaa
