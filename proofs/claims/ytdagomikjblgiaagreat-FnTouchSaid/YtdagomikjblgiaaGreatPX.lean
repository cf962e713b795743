/-
  The texts HulX, put together; each has its own heading below. No condition of ours.
-/
import Derived.Test.YtdagomikjblgiaaGreatHM
/-
  Hulls of few points: the hull of a hull is the hull; a hull of points that are not on one line is a polygon, and all points are on the left of its edges.
-/


namespace Go.Proofs.YtdagomikjblgiaaGreat
open Go.RowKit
set_option linter.unusedVariables false
theorem nodup_inj {l : List V2} (h : l.Nodup) {i j : Nat} (hi : i < l.length) (hj : j < l.length) (e : l[i] = l[j]) : i = j := by
  rcases Nat.lt_trichotomy i j with k | k | k
  · exact absurd e (List.pairwise_iff_getElem.1 h i j hi hj k)
  · exact k
  · exact absurd e.symm (List.pairwise_iff_getElem.1 h j i hj hi k)
theorem ends2 {xs : List V2} (h : 2 ≤ xs.length) : ∃ s m t, xs = s :: m ++ [t] := by
  cases xs with
  | nil => simp at h
  | cons s r =>
    have hr : r ≠ [] := by intro e; rw [e] at h; simp at h
    exact ⟨s, r.dropLast, r.getLast hr, by rw [List.cons_append, List.dropLast_concat_getLast hr]⟩
theorem hullV_eq {l : List V2} (hl : l.length ≤ 64) (hv : allV l = true) : hullV l = hul2 (srtV l) := by unfold hullV; rw [if_pos ⟨hl, hv⟩]
theorem hul2_out {xs : List V2} (h : 2 ≤ xs.length) : hul2 xs = outL (chain xs) (hiC xs) := by unfold hul2; rw [if_neg (by omega)]
theorem hullV_mem {l : List V2} : ∀ x ∈ hullV l, x ∈ l := by
  intro x hx
  unfold hullV at hx
  split at hx
  · exact (srtV_mem l x).1 (hul2_mem _ x hx)
  · simp at hx
theorem allV_mem {l m : List V2} (h : allV l = true) (hs : ∀ x ∈ m, x ∈ l) : allV m = true := List.all_eq_true.2 fun x hx => List.all_eq_true.1 h x (hs x hx)
theorem hullV_le {l : List V2} : (hullV l).length ≤ l.length := by
  unfold hullV
  split
  · by_cases h2 : (srtV l).length < 2
    · unfold hul2; rw [if_pos h2]; exact srtV_len l
    · obtain ⟨s, m, t, e⟩ := ends2 (xs := srtV l) (by omega)
      rw [hul2_out (by omega)]
      exact Nat.le_trans (hull_of (srtV_asc l) e).out_le (srtV_len l)
  · simp
theorem hullV_idem {l : List V2} (hl : l.length ≤ 64) (hv : allV l = true) : hullV (hullV l) = hullV l := by
  have h1 : (hullV l).length ≤ 64 := Nat.le_trans hullV_le hl
  have h2 : allV (hullV l) = true := allV_mem hv hullV_mem
  rw [hullV_eq h1 h2]
  by_cases hx : (srtV l).length < 2
  · have e : hullV l = srtV l := by rw [hullV_eq hl hv]; unfold hul2; rw [if_pos hx]
    rw [e, ← srtV_of (srtV_asc l) (fun a => Iff.rfl)]
    unfold hul2; rw [if_pos hx]
  · obtain ⟨s, m, t, e⟩ := ends2 (xs := srtV l) (by omega)
    have eo : hullV l = outL (chain (srtV l)) (hiC (srtV l)) := by rw [hullV_eq hl hv, hul2_out (by omega)]
    obtain ⟨q1, q2, m', q3⟩ := hull_hull (srtV_asc l) (srtV_asc (hullV l)) e (fun a => by rw [srtV_mem, eo])
    rw [hul2_out (by rw [q3]; simp), q1, q2, ← eo]
theorem hull_edge {l : List V2} (hl : l.length ≤ 64) (hv : allV l = true) (h2 : 2 ≤ (srtV l).length) {i : Nat} (hi : i < (hullV l).length) :
    (∀ x ∈ l, 0 ≤ tn (atV (hullV l) i) (atV (hullV l) ((i + 1) % (hullV l).length)) x) ∧
    (∀ j, j < (hullV l).length → j ≠ i → j ≠ (i + 1) % (hullV l).length → 0 < tn (atV (hullV l) i) (atV (hullV l) ((i + 1) % (hullV l).length)) (atV (hullV l) j)) := by
  obtain ⟨s, m, t, e⟩ := ends2 h2
  have H := hull_of (srtV_asc l) e
  have eo : hullV l = outL (chain (srtV l)) (hiC (srtV l)) := by rw [hullV_eq hl hv, hul2_out h2]
  have hnd : (hullV l).Nodup := by rw [eo]; exact H.nodup
  have hi1 : (i + 1) % (hullV l).length < (hullV l).length := Nat.mod_lt _ (by omega)
  have g1 : (hullV l)[i]? = some (atV (hullV l) i) := by rw [List.getElem?_eq_getElem hi, atV_eq hi]
  have g2 : (hullV l)[(i + 1) % (hullV l).length]? = some (atV (hullV l) ((i + 1) % (hullV l).length)) := by rw [List.getElem?_eq_getElem hi1, atV_eq hi1]
  have he := H.edges (i := i) (c := atV (hullV l) i) (d := atV (hullV l) ((i + 1) % (hullV l).length)) (by rw [← eo]; exact g1) (by rw [← eo]; exact g2)
  refine ⟨fun x hx => H.left he x ((srtV_mem l x).2 hx), fun j hj n1 n2 => ?_⟩
  have hm : atV (hullV l) j ∈ hullV l := by rw [atV_eq hj]; exact List.getElem_mem hj
  refine H.strict he ((H.mem_out _).1 (by rw [← eo]; exact hm)) (fun k => n1 ?_) (fun k => n2 ?_)
  · rw [atV_eq hj, atV_eq hi] at k
    exact nodup_inj hnd _ _ k
  · rw [atV_eq hj, atV_eq hi1] at k
    exact nodup_inj hnd _ _ k
/-- a polygon has three corners that are not on one line -/
theorem poly_three {D : List V2} (h : polyP D) : ∃ a b c, a ∈ D ∧ b ∈ D ∧ c ∈ D ∧ 0 < tn a b c := by
  have hA : ∀ k, k < D.length → vecV (atV D k) = true := fun k hk => poly_vec h hk
  obtain ⟨h3, _, hE⟩ := h
  have := hE 0 (by omega) 2 (by omega) (by omega) (by rw [Nat.mod_eq_of_lt (by omega)]; omega)
  rw [Nat.mod_eq_of_lt (show 0 + 1 < D.length by omega), tV_tn (hA 0 (by omega)) (hA 1 (by omega)) (hA 2 (by omega))] at this
  have m : ∀ k, k < D.length → atV D k ∈ D := fun k hk => by rw [atV_eq hk]; exact List.getElem_mem hk
  exact ⟨_, _, _, m 0 (by omega), m 1 (by omega), m 2 (by omega), this⟩
end Go.Proofs.YtdagomikjblgiaaGreat
