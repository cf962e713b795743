/-
  The texts PolA, HulX, put together; each has its own heading below. No condition of ours.
-/
import Derived.Test.YtdagomikjblgiaaHM
/-
  A polygon's area: the sum of triangles, the sum of products.
-/

namespace Go.Proofs.Ytdagomikjblgiaa
open Go.RowKit
set_option linter.unusedVariables false
/-- the triangles at the first corner, up to corner k -/
def fanN (l : List V2) : Nat → Int
  | 0 => 0
  | k + 1 => fanN l k + (if 2 ≤ k then tn (atV l 0) (atV l (k - 1)) (atV l k) else 0)
noncomputable def areaB (l : List V2) : Int := if polyB l = true then area2 l else 0
theorem fan_snoc2 (a : V2) : ∀ (xs : List V2) (b c : V2), fan a (xs ++ [b, c]) = fan a (xs ++ [b]) + tn a b c := by
  intro xs
  induction xs with
  | nil => intro b c; simp [fan]
  | cons x xs ih =>
    intro b c
    match xs, ih with
    | [], _ => simp [fan]
    | y :: xs, ih =>
      have := ih b c
      simp only [List.cons_append, fan] at this ⊢
      omega
theorem take_snoc {l : List V2} {k : Nat} (h : k < l.length) : l.take (k + 1) = l.take k ++ [atV l k] := by
  rw [List.take_succ_eq_append_getElem h, atV_eq h]
theorem fanN_take (a : V2) (r : List V2) : ∀ k, k ≤ r.length → fanN (a :: r) (k + 1) = fan a (r.take k) := by
  intro k
  induction k with
  | zero => intro _; simp [fanN, fan]
  | succ k ih =>
    intro hk
    rw [fanN, ih (by omega)]
    match k, ih with
    | 0, _ =>
      have : r.take 1 = r.take 0 ++ [atV r 0] := take_snoc (by omega)
      rw [this]; simp [fan]
    | k + 1, _ =>
      rw [if_pos (by omega)]
      have e1 : r.take (k + 1 + 1) = r.take k ++ [atV r k, atV r (k + 1)] := by rw [take_snoc (by omega), take_snoc (by omega), List.append_assoc]; rfl
      have e2 : r.take (k + 1) = r.take k ++ [atV r k] := take_snoc (by omega)
      rw [e1, e2, fan_snoc2]
      rfl
theorem fanN_all {l : List V2} (h : l ≠ []) : fanN l l.length = area2 l := by
  match l, h with
  | a :: r, _ =>
    rw [List.length_cons, fanN_take a r r.length (Nat.le_refl _), List.take_length]
    rfl
/-- bounds -/
theorem tn_small {a b c : V2} (ha : vecV a = true) (hb : vecV b = true) (hc : vecV c = true) : -8000000 ≤ tn a b c ∧ tn a b c ≤ 8000000 := by
  have h1 := vecB_bounds ha
  have h2 := vecB_bounds hb
  have h3 := vecB_bounds hc
  have k1 := mul_bounds (a := b.1 - a.1) (b := c.2 - a.2) (by omega) (by omega)
  have k2 := mul_bounds (a := b.2 - a.2) (b := c.1 - a.1) (by omega) (by omega)
  unfold tn
  omega
theorem fanN_small {l : List V2} (h : polyP l) : ∀ k, k ≤ l.length → -8000000 * (k : Int) ≤ fanN l k ∧ fanN l k ≤ 8000000 * (k : Int) := by
  intro k
  induction k with
  | zero => intro _; simp [fanN]
  | succ k ih =>
    intro hk
    have := ih (by omega)
    rw [fanN]
    split
    · have := tn_small (poly_vec h (k := 0) (by omega)) (poly_vec h (k := k - 1) (by omega)) (poly_vec h (k := k) (by omega))
      omega
    · omega
end Go.Proofs.Ytdagomikjblgiaa

/-
  Hulls of few points: the hull of a hull is the hull; a hull of points that are not on one line is a polygon, and all points are on the left of its edges.
-/


namespace Go.Proofs.Ytdagomikjblgiaa
open Go.RowKit
set_option linter.unusedVariables false
theorem nodup_inj {l : List V2} (h : l.Nodup) {i j : Nat} (hi : i < l.length) (hj : j < l.length) (e : l[i] = l[j]) : i = j := by
  rcases Nat.lt_trichotomy i j with k | k | k
  · exact absurd e (List.pairwise_iff_getElem.1 h i j hi hj k)
  · exact k
  · exact absurd e.symm (List.pairwise_iff_getElem.1 h j i hj hi k)
theorem ends2 {xs : List V2} (h : 2 ≤ xs.length) : ∃ s m t, xs = s :: m ++ [t] := by
  cases xs with
  | nil => simp at h
  | cons s r =>
    have hr : r ≠ [] := by intro e; rw [e] at h; simp at h
    exact ⟨s, r.dropLast, r.getLast hr, by rw [List.cons_append, List.dropLast_concat_getLast hr]⟩
theorem hullV_eq {l : List V2} (hl : l.length ≤ 64) (hv : allV l = true) : hullV l = hul2 (srtV l) := by unfold hullV; rw [if_pos ⟨hl, hv⟩]
theorem hul2_out {xs : List V2} (h : 2 ≤ xs.length) : hul2 xs = outL (chain xs) (hiC xs) := by unfold hul2; rw [if_neg (by omega)]
theorem hullV_mem {l : List V2} : ∀ x ∈ hullV l, x ∈ l := by
  intro x hx
  unfold hullV at hx
  split at hx
  · exact (srtV_mem l x).1 (hul2_mem _ x hx)
  · simp at hx
theorem allV_mem {l m : List V2} (h : allV l = true) (hs : ∀ x ∈ m, x ∈ l) : allV m = true := List.all_eq_true.2 fun x hx => List.all_eq_true.1 h x (hs x hx)
theorem hullV_le {l : List V2} : (hullV l).length ≤ l.length := by
  unfold hullV
  split
  · by_cases h2 : (srtV l).length < 2
    · unfold hul2; rw [if_pos h2]; exact srtV_len l
    · obtain ⟨s, m, t, e⟩ := ends2 (xs := srtV l) (by omega)
      rw [hul2_out (by omega)]
      exact Nat.le_trans (hull_of (srtV_asc l) e).out_le (srtV_len l)
  · simp
theorem hullV_idem {l : List V2} (hl : l.length ≤ 64) (hv : allV l = true) : hullV (hullV l) = hullV l := by
  have h1 : (hullV l).length ≤ 64 := Nat.le_trans hullV_le hl
  have h2 : allV (hullV l) = true := allV_mem hv hullV_mem
  rw [hullV_eq h1 h2]
  by_cases hx : (srtV l).length < 2
  · have e : hullV l = srtV l := by rw [hullV_eq hl hv]; unfold hul2; rw [if_pos hx]
    rw [e, ← srtV_of (srtV_asc l) (fun a => Iff.rfl)]
    unfold hul2; rw [if_pos hx]
  · obtain ⟨s, m, t, e⟩ := ends2 (xs := srtV l) (by omega)
    have eo : hullV l = outL (chain (srtV l)) (hiC (srtV l)) := by rw [hullV_eq hl hv, hul2_out (by omega)]
    obtain ⟨q1, q2, m', q3⟩ := hull_hull (srtV_asc l) (srtV_asc (hullV l)) e (fun a => by rw [srtV_mem, eo])
    rw [hul2_out (by rw [q3]; simp), q1, q2, ← eo]
theorem hull_edge {l : List V2} (hl : l.length ≤ 64) (hv : allV l = true) (h2 : 2 ≤ (srtV l).length) {i : Nat} (hi : i < (hullV l).length) :
    (∀ x ∈ l, 0 ≤ tn (atV (hullV l) i) (atV (hullV l) ((i + 1) % (hullV l).length)) x) ∧
    (∀ j, j < (hullV l).length → j ≠ i → j ≠ (i + 1) % (hullV l).length → 0 < tn (atV (hullV l) i) (atV (hullV l) ((i + 1) % (hullV l).length)) (atV (hullV l) j)) := by
  obtain ⟨s, m, t, e⟩ := ends2 h2
  have H := hull_of (srtV_asc l) e
  have eo : hullV l = outL (chain (srtV l)) (hiC (srtV l)) := by rw [hullV_eq hl hv, hul2_out h2]
  have hnd : (hullV l).Nodup := by rw [eo]; exact H.nodup
  have hi1 : (i + 1) % (hullV l).length < (hullV l).length := Nat.mod_lt _ (by omega)
  have g1 : (hullV l)[i]? = some (atV (hullV l) i) := by rw [List.getElem?_eq_getElem hi, atV_eq hi]
  have g2 : (hullV l)[(i + 1) % (hullV l).length]? = some (atV (hullV l) ((i + 1) % (hullV l).length)) := by rw [List.getElem?_eq_getElem hi1, atV_eq hi1]
  have he := H.edges (i := i) (c := atV (hullV l) i) (d := atV (hullV l) ((i + 1) % (hullV l).length)) (by rw [← eo]; exact g1) (by rw [← eo]; exact g2)
  refine ⟨fun x hx => H.left he x ((srtV_mem l x).2 hx), fun j hj n1 n2 => ?_⟩
  have hm : atV (hullV l) j ∈ hullV l := by rw [atV_eq hj]; exact List.getElem_mem hj
  refine H.strict he ((H.mem_out _).1 (by rw [← eo]; exact hm)) (fun k => n1 ?_) (fun k => n2 ?_)
  · rw [atV_eq hj, atV_eq hi] at k
    exact nodup_inj hnd _ _ k
  · rw [atV_eq hj, atV_eq hi1] at k
    exact nodup_inj hnd _ _ k
/-- a polygon has three corners that are not on one line -/
theorem poly_three {D : List V2} (h : polyP D) : ∃ a b c, a ∈ D ∧ b ∈ D ∧ c ∈ D ∧ 0 < tn a b c := by
  have hA : ∀ k, k < D.length → vecV (atV D k) = true := fun k hk => poly_vec h hk
  obtain ⟨h3, _, hE⟩ := h
  have := hE 0 (by omega) 2 (by omega) (by omega) (by rw [Nat.mod_eq_of_lt (by omega)]; omega)
  rw [Nat.mod_eq_of_lt (show 0 + 1 < D.length by omega), tV_tn (hA 0 (by omega)) (hA 1 (by omega)) (hA 2 (by omega))] at this
  have m : ∀ k, k < D.length → atV D k ∈ D := fun k hk => by rw [atV_eq hk]; exact List.getElem_mem hk
  exact ⟨_, _, _, m 0 (by omega), m 1 (by omega), m 2 (by omega), this⟩
theorem srt_two {l D : List V2} (h : polyP D) (hs : ∀ x ∈ D, x ∈ l) : 2 ≤ (srtV l).length := by
  obtain ⟨a, b, c, ha, hb, hc, hp⟩ := poly_three h
  have ma := (srtV_mem l a).2 (hs a ha)
  have mb := (srtV_mem l b).2 (hs b hb)
  rcases Nat.lt_or_ge (srtV l).length 2 with k | k
  · exfalso
    have e : a = b := by
      match hq : srtV l, k with
      | [], _ => rw [hq] at ma; simp at ma
      | [u], _ => rw [hq] at ma mb; simp at ma mb; rw [ma, mb]
      | _ :: _ :: _, k => simp only [List.length_cons] at k; omega
    rw [e] at hp
    unfold tn at hp
    simp at hp
  · exact k
theorem hull_poly {l D : List V2} (hl : l.length ≤ 16) (hv : allV l = true) (h : polyP D) (hs : ∀ x ∈ D, x ∈ l) : polyP (hullV l) := by
  have h2 := srt_two h hs
  obtain ⟨a, b, c, ha, hb, hc, hp⟩ := poly_three h
  obtain ⟨s, m, t, e⟩ := ends2 h2
  have H := hull_of (srtV_asc l) e
  have eo : hullV l = outL (chain (srtV l)) (hiC (srtV l)) := by rw [hullV_eq (by omega) hv, hul2_out h2]
  have h3 := H.three ((srtV_mem l a).2 (hs a ha)) ((srtV_mem l b).2 (hs b hb)) ((srtV_mem l c).2 (hs c hc)) (by omega)
  rw [← eo] at h3
  have hva := allV_mem hv (hullV_mem (l := l))
  have hvv : ∀ k, k < (hullV l).length → vecV (atV (hullV l) k) = true := fun k hk => by rw [atV_eq hk]; exact allV_at hva hk
  refine ⟨h3, Nat.le_trans hullV_le hl, fun i hi j hj n1 n2 => ?_⟩
  rw [tV_tn (hvv i hi) (hvv _ (Nat.mod_lt _ (by omega))) (hvv j hj)]
  exact (hull_edge (by omega) hv h2 hi).2 j hj n1 n2
theorem fan_pos (a : V2) : ∀ T : List V2, (∀ i, i + 1 < T.length → 0 < tn a (atV T i) (atV T (i + 1))) → 0 ≤ fan a T ∧ (2 ≤ T.length → 0 < fan a T) := by
  intro T
  induction T with
  | nil => intro _; exact ⟨Int.le_refl _, fun h => by simp at h⟩
  | cons b T ih =>
    intro h
    match T, ih, h with
    | [], _, _ => exact ⟨Int.le_refl _, fun h => by simp at h⟩
    | c :: r, ih, h =>
      have h0 : 0 < tn a b c := h 0 (by simp)
      obtain ⟨h1, _⟩ := ih fun i hi => by
        have := h (i + 1) (by simp at hi ⊢; omega)
        exact this
      have e : fan a (b :: c :: r) = tn a b c + fan a (c :: r) := rfl
      exact ⟨by omega, fun _ => by omega⟩
theorem poly_area {D : List V2} (h : polyP D) : 0 < area2 D := by
  have hA : ∀ k, k < D.length → vecV (atV D k) = true := fun k hk => poly_vec h hk
  obtain ⟨h3, _, hE⟩ := h
  match D, h3, hE, hA with
  | a :: r, h3, hE, hA =>
    have h3 : 3 ≤ r.length + 1 := h3
    refine (fan_pos a r fun i hi => ?_).2 (by omega)
    have hl : (a :: r).length = r.length + 1 := rfl
    have h1 := hE (i + 1) (by omega) 0 (by omega) (by omega)
    by_cases hm : i + 1 + 1 < r.length + 1
    · rw [hl, Nat.mod_eq_of_lt hm] at h1
      have h2 := h1 (by omega)
      rw [tV_tn (hA _ (by omega)) (hA _ (by omega)) (hA _ (by omega))] at h2
      have e : tn (atV (a :: r) (i + 1)) (atV (a :: r) (i + 1 + 1)) (atV (a :: r) 0) = tn a (atV r i) (atV r (i + 1)) := tn_cyc _ _ _
      omega
    · omega
theorem poly_area_le {l D : List V2} (hl : l.length ≤ 16) (hv : allV l = true) (h : polyP D) (hD : hullV D = D) (hs : ∀ x ∈ D, x ∈ l) : area2 D ≤ area2 (hullV l) := by
  have h2 := srt_two h hs
  have h2' := srt_two h (fun x hx => hx)
  obtain ⟨s, m, t, e⟩ := ends2 h2
  obtain ⟨s', m', t', e'⟩ := ends2 h2'
  have hDl : D.length ≤ 64 := by have := h.2.1; omega
  have hDv : allV D = true := allV_mem hv hs
  have H := hull_of (srtV_asc l) e
  have H' := hull_of (srtV_asc D) e'
  have a1 : area2 (hullV l) = Fs (chain (srtV l)) + Fs (hiC (srtV l)) := by rw [hullV_eq (by omega) hv, hul2_out h2]; exact H.area
  have a2 : area2 D = Fs (chain (srtV D)) + Fs (hiC (srtV D)) := by
    conv => lhs; rw [← hD]
    rw [hullV_eq hDl hDv, hul2_out h2']; exact H'.area
  rw [a1, a2]
  exact area_le (srtV_asc l) (srtV_asc D) e e' fun x hx => (srtV_mem l x).2 (hs x ((srtV_mem D x).1 hx))
end Go.Proofs.Ytdagomikjblgiaa
