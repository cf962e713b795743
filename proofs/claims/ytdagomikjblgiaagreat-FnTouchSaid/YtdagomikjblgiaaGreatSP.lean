/-
  The texts SumP, MinM, put together; each has its own heading below. No condition of ours.
-/
import Derived.Test.YtdagomikjblgiaaGreatPX
/-
  Sums of two polygons: how many corners, what lies inside, what separates two polygons.
-/

namespace Go.Proofs.YtdagomikjblgiaaGreat
open Go.RowKit
set_option linter.unusedVariables false
def addV (u v : V2) : V2 := (u.1 + v.1, u.2 + v.2)
def sumV (a b : List V2) : List V2 := a.flatMap fun v => b.map fun w => addV v w
theorem sumV_mem {a b : List V2} {x : V2} : x ∈ sumV a b ↔ ∃ p, p ∈ a ∧ ∃ q, q ∈ b ∧ addV p q = x := by simp [sumV]
theorem sumV_of {a b : List V2} {p q : V2} (hp : p ∈ a) (hq : q ∈ b) : addV p q ∈ sumV a b := sumV_mem.2 ⟨p, hp, q, hq, rfl⟩
theorem sumV_len (a b : List V2) : (sumV a b).length = a.length * b.length := by
  induction a with
  | nil => simp [sumV]
  | cons v a ih =>
    have e : sumV (v :: a) b = b.map (fun w => addV v w) ++ sumV a b := by simp [sumV]
    rw [e, List.length_append, ih, List.length_map, List.length_cons, Nat.add_mul]; omega
def dt (u w : V2) : Int := u.1 * w.1 + u.2 * w.2
/-- w points where u points -/
def pr (u w : V2) : Prop := crs u w = 0 ∧ 0 < dt u w
theorem sq_nn (x : Int) : 0 ≤ x * x := by
  rcases Int.le_total 0 x with h | h
  · exact Int.mul_nonneg h h
  · exact Int.mul_nonneg_of_nonpos_of_nonpos h h
theorem sq_pos {x : Int} (h : x ≠ 0) : 0 < x * x := by
  rcases Int.lt_or_gt_of_ne h with k | k
  · exact Int.mul_pos_of_neg_of_neg k k
  · exact Int.mul_pos k k
theorem dt_pos {u w : V2} (h : 0 < dt u w) : 0 < dt u u := by
  unfold dt at *
  have h1 := sq_nn u.1
  have h2 := sq_nn u.2
  by_cases e1 : u.1 = 0
  · by_cases e2 : u.2 = 0
    · rw [e1, e2] at h; simp at h
    · have := sq_pos e2; omega
  · have := sq_pos e1; omega
theorem sgn_eq {A B x y : Int} (hA : 0 < A) (hB : 0 < B) (e : A * x = B * y) : (0 < x ↔ 0 < y) ∧ (0 ≤ x ↔ 0 ≤ y) :=
  ⟨⟨fun h => mpos' hB (by rw [← e]; exact Int.mul_pos hA h), fun h => mpos' hA (by rw [e]; exact Int.mul_pos hB h)⟩,
   ⟨fun h => mpos hB (by rw [← e]; exact Int.mul_nonneg (by omega) h), fun h => mpos hA (by rw [e]; exact Int.mul_nonneg (by omega) h)⟩⟩
theorem pr_sgn {u w : V2} (h : pr u w) (z : V2) : (0 < crs w z ↔ 0 < crs u z) ∧ (0 ≤ crs w z ↔ 0 ≤ crs u z) := by
  refine sgn_eq (dt_pos h.2) h.2 ?_
  have e : dt u u * crs w z = dt u w * crs u z - crs u w * dt z u := by unfold dt crs; grind
  rw [e, h.1]; omega
theorem crs_sb (u p q : V2) : crs u (sb p q) = crs u q - crs u p := by unfold crs sb; grind
theorem crs_self (u : V2) : crs u u = 0 := by unfold crs; grind
theorem crs_add (u p q : V2) : crs u (addV p q) = crs u p + crs u q := by unfold crs addV; grind
theorem crs_ngr (u p : V2) : crs u (ng p) = - crs u p := by unfold crs ng; grind
theorem crs_ngl (u p : V2) : crs (ng u) p = - crs u p := by unfold crs ng; grind
theorem at_mem {l : List V2} {i : Nat} (h : i < l.length) : atV l i ∈ l := by rw [atV_eq h]; exact List.getElem_mem h
theorem mem_at {l : List V2} {x : V2} (h : x ∈ l) : ∃ i, i < l.length ∧ atV l i = x := by
  obtain ⟨i, hi, e⟩ := List.getElem_of_mem h
  exact ⟨i, hi, by rw [atV_eq hi, e]⟩
/-- what lies farthest against u, and leads on along u, is an edge -/
theorem face {D : List V2} (h : polyP D) {u p p' : V2} (hp : p ∈ D) (hp' : p' ∈ D) (hm : ∀ x ∈ D, crs u p ≤ crs u x) (hpr : pr u (sb p p')) :
    ∃ i, i < D.length ∧ atV D i = p ∧ atV D ((i + 1) % D.length) = p' := by
  obtain ⟨i, hi, e⟩ := mem_at hp
  obtain ⟨j, hj, e'⟩ := mem_at hp'
  refine ⟨i, hi, e, ?_⟩
  have hi1 : (i + 1) % D.length < D.length := Nat.mod_lt _ (by omega)
  by_cases k : j = (i + 1) % D.length
  · rw [← k, e']
  · exfalso
    have hne : j ≠ i := fun k => by
      subst k
      rw [e] at e'
      subst e'
      have := hpr.2
      unfold dt sb at this
      simp at this
    have h1 := h.2.2 i hi j hj hne k
    rw [tV_tn (poly_vec h hi) (poly_vec h hi1) (poly_vec h hj), e, e', tn_crs'] at h1
    have h2 := hm _ (at_mem hi1)
    generalize atV D ((i + 1) % D.length) = q at *
    have h3 := (pr_sgn hpr (sb p q)).2
    have h4 := crs_sb u p q
    have h5 := crs_swap (sb p q) (sb p p')
    have := h3.2 (by omega)
    omega
theorem third {k i : Nat} (h3 : 3 ≤ k) (hi : i < k) : ∃ j, j < k ∧ j ≠ i ∧ j ≠ (i + 1) % k := by
  generalize (i + 1) % k = m
  by_cases h0 : 0 ≠ i ∧ 0 ≠ m
  · exact ⟨0, by omega, h0.1, h0.2⟩
  by_cases h1 : 1 ≠ i ∧ 1 ≠ m
  · exact ⟨1, by omega, h1.1, h1.2⟩
  exact ⟨2, by omega, by omega, by omega⟩
theorem tn_same (a x : V2) : tn a a x = 0 := by unfold tn; grind
section
variable {a b : List V2} (hl : (sumV a b).length ≤ 64) (hv : allV (sumV a b) = true) (h2 : 2 ≤ (srtV (sumV a b)).length) (h3 : 3 ≤ (hullV (sumV a b)).length)
include hl hv h2 h3
theorem edge_ne {i : Nat} (hi : i < (hullV (sumV a b)).length) : atV (hullV (sumV a b)) i ≠ atV (hullV (sumV a b)) ((i + 1) % (hullV (sumV a b)).length) := by
  intro e
  obtain ⟨j, hj, n1, n2⟩ := third h3 hi
  have := (hull_edge hl hv h2 hi).2 j hj n1 n2
  rw [e, tn_same] at this
  omega
theorem sum_edge {i : Nat} (hi : i < (hullV (sumV a b)).length) {u : V2} (hu : u = sb (atV (hullV (sumV a b)) i) (atV (hullV (sumV a b)) ((i + 1) % (hullV (sumV a b)).length))) :
    ∃ p p' q q', p ∈ a ∧ p' ∈ a ∧ q ∈ b ∧ q' ∈ b ∧ atV (hullV (sumV a b)) i = addV p q ∧ (∀ y ∈ a, crs u p ≤ crs u y) ∧ (∀ y ∈ b, crs u q ≤ crs u y) ∧ (pr u (sb p p') ∨ pr u (sb q q')) := by
  have hi1 : (i + 1) % (hullV (sumV a b)).length < (hullV (sumV a b)).length := Nat.mod_lt _ (by omega)
  have hne := edge_ne hl hv h2 h3 hi
  have hleft := (hull_edge hl hv h2 hi).1
  obtain ⟨p, hp, q, hq, e⟩ := sumV_mem.1 (hullV_mem _ (at_mem hi))
  obtain ⟨p', hp', q', hq', e'⟩ := sumV_mem.1 (hullV_mem _ (at_mem hi1))
  generalize atV (hullV (sumV a b)) i = c at *
  generalize atV (hullV (sumV a b)) ((i + 1) % (hullV (sumV a b)).length) = d at *
  have hL : ∀ x ∈ sumV a b, crs u c ≤ crs u x := fun x hx => by
    have := hleft x hx
    rw [tn_crs', ← hu, crs_sb] at this
    omega
  have huu : crs u c = crs u d := by
    have := crs_self u
    conv at this => lhs; arg 2; rw [hu]
    rw [crs_sb] at this
    omega
  have ec := crs_add u p q
  have ed := crs_add u p' q'
  rw [e] at ec
  rw [e'] at ed
  have k1 := hL _ (sumV_of hp hq')
  have k2 := hL _ (sumV_of hp' hq)
  rw [crs_add] at k1 k2
  refine ⟨p, p', q, q', hp, hp', hq, hq', e.symm, fun y hy => ?_, fun y hy => ?_, ?_⟩
  · have := hL _ (sumV_of hy hq)
    rw [crs_add] at this; omega
  · have := hL _ (sumV_of hp hy)
    rw [crs_add] at this; omega
  · have z1 : crs u (sb p p') = 0 := by rw [crs_sb]; omega
    have z2 : crs u (sb q q') = 0 := by rw [crs_sb]; omega
    have hd : 0 < dt u u := by
      have h1 := sq_nn u.1
      have h2 := sq_nn u.2
      unfold dt
      by_cases e1 : u.1 = 0
      · by_cases e2 : u.2 = 0
        · exfalso
          apply hne
          rw [hu] at e1 e2
          unfold sb at e1 e2
          exact Prod.ext (by simp only at e1; omega) (by simp only at e2; omega)
        · have := sq_pos e2; omega
      · have := sq_pos e1; omega
    have hs : dt u u = dt u (sb p p') + dt u (sb q q') := by
      have : u = addV (sb p p') (sb q q') := by
        rw [hu, ← e, ← e']; unfold sb addV; exact Prod.ext (by simp only; omega) (by simp only; omega)
      conv => lhs; arg 2; rw [this]
      unfold dt addV; grind
    by_cases hx : 0 < dt u (sb p p')
    · exact .inl ⟨z1, hx⟩
    · exact .inr ⟨z2, by omega⟩
end
theorem nodup_leN {l : List Nat} : ∀ {X : List Nat}, l.Nodup → (∀ x ∈ l, x ∈ X) → l.length ≤ X.length := by
  induction l with
  | nil => intro X _ _; simp
  | cons a l ih =>
    intro X hn hs
    have hn' := List.nodup_cons.1 hn
    have := ih (X := X.erase a) hn'.2 (fun x hx => (List.mem_erase_of_ne (fun e => hn'.1 (by rw [← e]; exact hx))).2 (hs x (List.mem_cons_of_mem _ hx)))
    have ha := hs a (by simp)
    rw [List.length_erase_of_mem ha] at this
    have := List.length_pos_of_mem ha
    simp; omega
theorem inj_le {k m : Nat} (f : Nat → Nat) (h1 : ∀ i, i < k → f i < m) (h2 : ∀ i j, i < k → j < k → f i = f j → i = j) : k ≤ m := by
  have hn : ((List.range k).map f).Nodup := by
    unfold List.Nodup
    rw [List.pairwise_map]
    refine List.Pairwise.imp_of_mem ?_ (List.nodup_range (n := k))
    intro x y hx hy hne e
    exact hne (h2 x y (List.mem_range.1 hx) (List.mem_range.1 hy) e)
  have := nodup_leN hn (X := List.range m) (fun x hx => by
    obtain ⟨i, hi, rfl⟩ := List.mem_map.1 hx
    exact List.mem_range.2 (h1 i (List.mem_range.1 hi)))
  simpa using this
/-- which edges of both polygons an edge of the sum goes along -/
def alongE (a b : List V2) (u : V2) (t : Nat) : Prop :=
  if t < a.length then pr u (sb (atV a t) (atV a ((t + 1) % a.length))) else pr u (sb (atV b (t - a.length)) (atV b ((t - a.length + 1) % b.length)))
theorem next_ne {k i j : Nat} (h3 : 3 ≤ k) (hi : i < k) (hj : j = (i + 1) % k) : (j + 1) % k ≠ i ∧ (j + 1) % k ≠ (i + 1) % k := by
  by_cases e : i + 1 < k
  · rw [Nat.mod_eq_of_lt e] at hj ⊢
    subst hj
    by_cases e2 : i + 1 + 1 < k
    · rw [Nat.mod_eq_of_lt e2]; omega
    · have : i + 1 + 1 = k := by omega
      rw [this, Nat.mod_self]; omega
  · have : i + 1 = k := by omega
    rw [this, Nat.mod_self] at hj ⊢
    subst hj
    rw [Nat.mod_eq_of_lt (by omega)]; omega
theorem sum_few {a b : List V2} (ha : polyP a) (hb : polyP b) (hl : (sumV a b).length ≤ 64) (hv : allV (sumV a b) = true) (h2 : 2 ≤ (srtV (sumV a b)).length) (h3 : 3 ≤ (hullV (sumV a b)).length) :
    (hullV (sumV a b)).length ≤ a.length + b.length := by
  have hex : ∀ i, ∃ t, i < (hullV (sumV a b)).length → t < a.length + b.length ∧ alongE a b (sb (atV (hullV (sumV a b)) i) (atV (hullV (sumV a b)) ((i + 1) % (hullV (sumV a b)).length))) t := by
    intro i
    by_cases hi : i < (hullV (sumV a b)).length
    · obtain ⟨p, p', q, q', hp, hp', hq, hq', e, m1, m2, hpr⟩ := sum_edge hl hv h2 h3 hi rfl
      rcases hpr with hpr | hpr
      · obtain ⟨t, ht, e1, e2⟩ := face ha hp hp' m1 hpr
        refine ⟨t, fun _ => ⟨by omega, ?_⟩⟩
        unfold alongE
        rw [if_pos ht, e1, e2]; exact hpr
      · obtain ⟨t, ht, e1, e2⟩ := face hb hq hq' m2 hpr
        refine ⟨a.length + t, fun _ => ⟨by omega, ?_⟩⟩
        unfold alongE
        rw [if_neg (by omega), Nat.add_sub_cancel_left, e1, e2]; exact hpr
    · exact ⟨0, fun h => (hi h).elim⟩
  obtain ⟨f, hf⟩ := Classical.axiomOfChoice hex
  refine inj_le f (fun i hi => (hf i hi).1) fun i j hi hj e => ?_
  have r1 := (hf i hi).2
  have r2 := (hf j hj).2
  rw [← e] at r2
  have hi1 : (i + 1) % (hullV (sumV a b)).length < (hullV (sumV a b)).length := Nat.mod_lt _ (by omega)
  have hj1 : (j + 1) % (hullV (sumV a b)).length < (hullV (sumV a b)).length := Nat.mod_lt _ (by omega)
  have hs : ∀ z, 0 ≤ crs (sb (atV (hullV (sumV a b)) i) (atV (hullV (sumV a b)) ((i + 1) % (hullV (sumV a b)).length))) z ↔ 0 ≤ crs (sb (atV (hullV (sumV a b)) j) (atV (hullV (sumV a b)) ((j + 1) % (hullV (sumV a b)).length))) z := by
    intro z
    unfold alongE at r1 r2
    split at r1
    · rw [if_pos (by assumption)] at r2
      exact (pr_sgn r1 z).2.symm.trans (pr_sgn r2 z).2
    · rw [if_neg (by assumption)] at r2
      exact (pr_sgn r1 z).2.symm.trans (pr_sgn r2 z).2
  have hij := (hull_edge hl hv h2 hi).1 _ (hullV_mem _ (at_mem hj))
  have hji := (hull_edge hl hv h2 hj).1 _ (hullV_mem _ (at_mem hi))
  have hst := (hull_edge hl hv h2 hi).2
  by_cases k1 : j = i
  · exact k1.symm
  exfalso
  have t1 : tn (atV (hullV (sumV a b)) i) (atV (hullV (sumV a b)) ((i + 1) % (hullV (sumV a b)).length)) (atV (hullV (sumV a b)) j) = 0 := by
    rw [tn_crs'] at hij hji ⊢
    have := (hs _).2 hji
    rw [crs_sb] at *
    omega
  have k2 : j = (i + 1) % (hullV (sumV a b)).length := by
    by_cases k : j = (i + 1) % (hullV (sumV a b)).length
    · exact k
    · have := hst j hj k1 k; omega
  obtain ⟨k3, k4⟩ := next_ne h3 hi k2
  have t2 := hst _ hj1 k3 k4
  generalize atV (hullV (sumV a b)) i = c at *
  generalize atV (hullV (sumV a b)) ((i + 1) % (hullV (sumV a b)).length) = d at *
  generalize atV (hullV (sumV a b)) j = c' at *
  generalize atV (hullV (sumV a b)) ((j + 1) % (hullV (sumV a b)).length) = d' at *
  have s1 := (hs (sb c' d')).2 (by rw [crs_self]; omega)
  have s2 := (hs (ng (sb c' d'))).2 (by rw [crs_ngr, crs_self]; omega)
  rw [crs_ngr] at s2
  rw [tn_crs'] at t1 t2
  rw [crs_sb] at *
  omega
theorem hull_polyN {l D : List V2} (hl : l.length ≤ 64) (h16 : (hullV l).length ≤ 16) (hv : allV l = true) (h2 : 2 ≤ (srtV l).length) (h3 : 3 ≤ (hullV l).length) : polyP (hullV l) := by
  have hva := allV_mem hv (hullV_mem (l := l))
  have hvv : ∀ k, k < (hullV l).length → vecV (atV (hullV l) k) = true := fun k hk => by rw [atV_eq hk]; exact allV_at hva hk
  refine ⟨h3, h16, fun i hi j hj n1 n2 => ?_⟩
  rw [tV_tn (hvv i hi) (hvv _ (Nat.mod_lt _ (by omega))) (hvv j hj)]
  exact (hull_edge (by omega) hv h2 hi).2 j hj n1 n2
theorem tn_addr (a b c z : V2) : tn (addV a z) (addV b z) (addV c z) = tn a b c := by unfold tn addV; grind
/-- three points of a sum that are not on one line -/
theorem sum_three {a b : List V2} (ha : polyP a) (hb : polyP b) (hl : (sumV a b).length ≤ 64) (hv : allV (sumV a b) = true) : 2 ≤ (srtV (sumV a b)).length ∧ 3 ≤ (hullV (sumV a b)).length := by
  obtain ⟨p, q, r, hp, hq, hr, ht⟩ := poly_three ha
  have hb0 : 0 < b.length := by have := hb.1; omega
  have hz := at_mem hb0
  generalize atV b 0 = z at *
  have m1 := sumV_of hp hz
  have m2 := sumV_of hq hz
  have m3 := sumV_of hr hz
  have h2 : 2 ≤ (srtV (sumV a b)).length := by
    have ma := (srtV_mem (sumV a b) _).2 m1
    have mb := (srtV_mem (sumV a b) _).2 m2
    rcases Nat.lt_or_ge (srtV (sumV a b)).length 2 with k | k
    · exfalso
      have e : addV p z = addV q z := by
        match hq : srtV (sumV a b), k with
        | [], _ => rw [hq] at ma; simp at ma
        | [u], _ => rw [hq] at ma mb; simp at ma mb; rw [ma, mb]
        | _ :: _ :: _, k => simp only [List.length_cons] at k; omega
      have : tn p q r = 0 := by rw [← tn_addr p q r z, e, tn_same]
      omega
    · exact k
  refine ⟨h2, ?_⟩
  obtain ⟨s, m, t, e⟩ := ends2 h2
  have H := hull_of (srtV_asc (sumV a b)) e
  have eo : hullV (sumV a b) = outL (chain (srtV (sumV a b))) (hiC (srtV (sumV a b))) := by rw [hullV_eq hl hv, hul2_out h2]
  rw [eo]
  exact H.three ((srtV_mem _ _).2 m1) ((srtV_mem _ _).2 m2) ((srtV_mem _ _).2 m3) (by rw [tn_addr]; omega)
theorem sum_poly {a b : List V2} (ha : polyP a) (hb : polyP b) (hab : a.length + b.length ≤ 16) (hv : allV (sumV a b) = true) : polyP (hullV (sumV a b)) := by
  have hl : (sumV a b).length ≤ 64 := by
    rw [sumV_len]
    have : ∀ m n : Nat, m + n ≤ 16 → m * n ≤ 64 := by
      intro m n h
      have h1 : (m : Int) * n ≤ 64 := by
        have := sq_nn ((m : Int) - n)
        have h2 : ((m : Int) + n) * (m + n) ≤ 16 * 16 := Int.mul_le_mul (by omega) (by omega) (by omega) (by omega)
        have e : ((m : Int) + n) * (m + n) = ((m : Int) - n) * (m - n) + 4 * (m * n) := by grind
        omega
      have : ((m * n : Nat) : Int) ≤ 64 := by rw [Int.natCast_mul]; exact h1
      omega
    exact this _ _ hab
  obtain ⟨h2, h3⟩ := sum_three ha hb hl hv
  exact hull_polyN (D := a) hl (Nat.le_trans (sum_few ha hb hl hv h2 h3) hab) hv h2 h3
theorem ex_min (f : V2 → Int) : ∀ l : List V2, l ≠ [] → ∃ x ∈ l, ∀ y ∈ l, f x ≤ f y := by
  intro l
  induction l with
  | nil => intro h; exact (h rfl).elim
  | cons a l ih =>
    intro _
    by_cases hl : l = []
    · subst hl; exact ⟨a, by simp, by simp⟩
    · obtain ⟨x, hx, hm⟩ := ih hl
      by_cases k : f a ≤ f x
      · exact ⟨a, by simp, fun y hy => by
          rcases List.mem_cons.1 hy with rfl | hy
          · omega
          · have := hm y hy; omega⟩
      · exact ⟨x, List.mem_cons_of_mem _ hx, fun y hy => by
          rcases List.mem_cons.1 hy with rfl | hy
          · omega
          · exact hm y hy⟩
theorem prev_ix {k j : Nat} (h3 : 3 ≤ k) (hj : j < k) : ∃ i, i < k ∧ (i + 1) % k = j := by
  by_cases h0 : j = 0
  · exact ⟨k - 1, by omega, by rw [show k - 1 + 1 = k by omega, Nat.mod_self, h0]⟩
  · exact ⟨j - 1, by omega, by rw [show j - 1 + 1 = j by omega, Nat.mod_eq_of_lt hj]⟩
/-- on the left of all edges: then no line through it has all corners strictly on one side -/
theorem inside_min {h : List V2} (hp : polyP h) {v : V2} (hin : ∀ i, i < h.length → 0 ≤ tn (atV h i) (atV h ((i + 1) % h.length)) v) (u : V2) : ∃ x ∈ h, crs u x ≤ crs u v := by
  have h3 := hp.1
  obtain ⟨x, hx, hm⟩ := ex_min (crs u) h (fun e => by rw [e] at h3; simp at h3)
  obtain ⟨j, hj, e⟩ := mem_at hx
  obtain ⟨i, hi, ei⟩ := prev_ix h3 hj
  have hj1 : (j + 1) % h.length < h.length := Nat.mod_lt _ (by omega)
  obtain ⟨k3, k4⟩ := next_ne h3 hi ei.symm
  have ht := hp.2.2 i hi _ hj1 k3 k4
  rw [tV_tn (poly_vec hp hi) (poly_vec hp (by rw [ei]; exact hj)) (poly_vec hp hj1), ei, e] at ht
  have a1 := hin i hi
  have a2 := hin j hj
  rw [ei, e] at a1
  rw [e] at a2
  have b1 := hm _ (at_mem hi)
  have b2 := hm _ (at_mem hj1)
  generalize atV h i = c at *
  generalize atV h ((j + 1) % h.length) = d at *
  refine ⟨x, hx, ?_⟩
  have e1 : tn c x d * (crs u v - crs u x) = tn x d v * (crs u c - crs u x) + tn c x v * (crs u d - crs u x) := by unfold tn crs; grind
  have n1 := Int.mul_nonneg a2 (show 0 ≤ crs u c - crs u x by omega)
  have n2 := Int.mul_nonneg a1 (show 0 ≤ crs u d - crs u x by omega)
  have := mpos ht (show 0 ≤ tn c x d * (crs u v - crs u x) by omega)
  omega
/-- an edge of l with all points of m strictly on its right -/
def sepP (l m : List V2) : Prop := ∃ i, i < l.length ∧ ∀ q ∈ m, tn (atV l i) (atV l ((i + 1) % l.length)) q < 0
theorem at_map (f : V2 → V2) {l : List V2} {i : Nat} (h : i < l.length) : atV (l.map f) i = f (atV l i) := by
  rw [atV_eq h, atV_eq (by rw [List.length_map]; exact h), List.getElem_map]
theorem poly_ng {a : List V2} (h : polyP a) : polyP (a.map ng) := by
  refine ⟨by rw [List.length_map]; exact h.1, by rw [List.length_map]; exact h.2.1, fun i hi j hj n1 n2 => ?_⟩
  rw [List.length_map] at *
  have hi1 : (i + 1) % a.length < a.length := Nat.mod_lt _ (by omega)
  have := h.2.2 i hi j hj n1 n2
  rw [at_map ng hi, at_map ng hi1, at_map ng hj]
  have hn : ∀ k, k < a.length → vecV (ng (atV a k)) = true := fun k hk => by
    have := poly_vec h hk
    unfold vecV at *
    have hb := vecB_bounds this
    unfold vecB ng
    simp; omega
  rw [tV_tn (poly_vec h hi) (poly_vec h hi1) (poly_vec h hj)] at this
  rw [tV_tn (hn i hi) (hn _ hi1) (hn j hj), tn_ng]
  exact this
theorem poly_left {D : List V2} (h : polyP D) {i : Nat} (hi : i < D.length) : ∀ x ∈ D, 0 ≤ tn (atV D i) (atV D ((i + 1) % D.length)) x := by
  intro x hx
  obtain ⟨j, hj, e⟩ := mem_at hx
  subst e
  have hi1 : (i + 1) % D.length < D.length := Nat.mod_lt _ (by omega)
  by_cases k1 : j = i
  · rw [k1, tn_l]; omega
  by_cases k2 : j = (i + 1) % D.length
  · rw [k2, tn_r]; omega
  have := h.2.2 i hi j hj k1 k2
  rw [tV_tn (poly_vec h hi) (poly_vec h hi1) (poly_vec h hj)] at this
  omega
/-- the point v lies outside of the hull of all differences exactly if an edge separates both polygons -/
theorem touch_iff {a b : List V2} (ha : polyP a) (hb : polyP b) (hl : (sumV b (a.map ng)).length ≤ 64) (hv : allV (sumV b (a.map ng)) = true) (hP : polyP (hullV (sumV b (a.map ng)))) (v : V2) :
    (∃ i, i < (hullV (sumV b (a.map ng))).length ∧ tn (atV (hullV (sumV b (a.map ng))) i) (atV (hullV (sumV b (a.map ng))) ((i + 1) % (hullV (sumV b (a.map ng))).length)) v < 0) ↔
      (sepP (a.map fun p => addV p v) b ∨ sepP b (a.map fun p => addV p v)) := by
  obtain ⟨h2, h3⟩ := sum_three hb (poly_ng ha) hl hv
  constructor
  · rintro ⟨i, hi, hneg⟩
    obtain ⟨q, q', p, p', hq, hq', hp, hp', e, m1, m2, hpr⟩ := sum_edge hl hv h2 h3 hi rfl
    rw [tn_crs', crs_sb] at hneg
    generalize sb (atV (hullV (sumV b (a.map ng))) i) (atV (hullV (sumV b (a.map ng))) ((i + 1) % (hullV (sumV b (a.map ng))).length)) = u at *
    rw [e] at hneg
    have hpn : ∃ r, r ∈ a ∧ ng r = p := by obtain ⟨r, hr, e⟩ := List.mem_map.1 hp; exact ⟨r, hr, e⟩
    obtain ⟨r, hr, rfl⟩ := hpn
    have hpn : ∃ r, r ∈ a ∧ ng r = p' := by obtain ⟨r, hr, e⟩ := List.mem_map.1 hp'; exact ⟨r, hr, e⟩
    obtain ⟨r', hr', rfl⟩ := hpn
    have m3 : ∀ y ∈ a, crs u y ≤ crs u r := fun y hy => by
      have := m2 _ (List.mem_map_of_mem hy)
      rw [crs_ngr, crs_ngr] at this; omega
    rw [crs_add, crs_ngr] at hneg
    rcases hpr with hpr | hpr
    · right
      obtain ⟨t, ht, e1, e2⟩ := face hb hq hq' m1 hpr
      refine ⟨t, ht, fun y hy => ?_⟩
      obtain ⟨y, hy', rfl⟩ := List.mem_map.1 hy
      rw [e1, e2, tn_crs']
      have := (pr_sgn hpr (sb q (addV y v))).2
      have k := m3 y hy'
      have e3 : crs u (sb q (addV y v)) = crs u y + crs u v - crs u q := by rw [crs_sb, crs_add]
      by_cases k2 : 0 ≤ crs (sb q q') (sb q (addV y v))
      · have := this.1 k2; omega
      · omega
    · left
      obtain ⟨t, ht, e1, e2⟩ := face (poly_ng ha) hp hp' m2 hpr
      rw [List.length_map] at ht e2
      have ht1 : (t + 1) % a.length < a.length := Nat.mod_lt _ (by omega)
      rw [at_map ng ht] at e1
      rw [at_map ng ht1] at e2
      refine ⟨t, by rw [List.length_map]; exact ht, fun x hx => ?_⟩
      rw [List.length_map, at_map _ ht, at_map _ ht1, ng_inj e1, ng_inj e2]
      have k := m1 x hx
      have := (pr_sgn hpr (sb (addV r v) x)).1
      have e3 : crs u (sb (addV r v) x) = crs u x - crs u r - crs u v := by rw [crs_sb, crs_add]; omega
      have e4 : tn (addV r v) (addV r' v) x = - crs (sb (ng r) (ng r')) (sb (addV r v) x) := by unfold tn crs sb ng addV; grind
      have := this.2 (by omega)
      omega
  · intro hs
    refine Classical.byContradiction fun hn => ?_
    have hin : ∀ i, i < (hullV (sumV b (a.map ng))).length → 0 ≤ tn (atV (hullV (sumV b (a.map ng))) i) (atV (hullV (sumV b (a.map ng))) ((i + 1) % (hullV (sumV b (a.map ng))).length)) v := fun i hi => by
      rcases Int.lt_or_le (tn (atV (hullV (sumV b (a.map ng))) i) (atV (hullV (sumV b (a.map ng))) ((i + 1) % (hullV (sumV b (a.map ng))).length)) v) 0 with k | k
      · exact (hn ⟨i, hi, k⟩).elim
      · exact k
    rcases hs with ⟨t, ht, hs⟩ | ⟨t, ht, hs⟩
    · rw [List.length_map] at ht hs
      have ht1 : (t + 1) % a.length < a.length := Nat.mod_lt _ (by omega)
      rw [at_map _ ht, at_map _ ht1] at hs
      have hle := poly_left ha ht
      generalize atV a t = c at *
      generalize atV a ((t + 1) % a.length) = d at *
      obtain ⟨s, hs1, hs2⟩ := inside_min hP hin (ng (sb c d))
      obtain ⟨x, hx, y, hy, e⟩ := sumV_mem.1 (hullV_mem _ hs1)
      obtain ⟨y, hy', rfl⟩ := List.mem_map.1 hy
      have k1 := hs x hx
      have k2 := hle y hy'
      rw [← e] at hs2
      have e1 : tn (addV c v) (addV d v) x = crs (sb c d) x - crs (sb c d) c - crs (sb c d) v := by unfold tn crs sb addV; grind
      have e2 : tn c d y = crs (sb c d) y - crs (sb c d) c := by rw [tn_crs', crs_sb]
      rw [crs_add, crs_ngr, crs_ngl, crs_ngl, crs_ngl] at hs2
      omega
    · have hle := poly_left hb ht
      generalize atV b t = c at *
      generalize atV b ((t + 1) % b.length) = d at *
      obtain ⟨s, hs1, hs2⟩ := inside_min hP hin (sb c d)
      obtain ⟨x, hx, y, hy, e⟩ := sumV_mem.1 (hullV_mem _ hs1)
      obtain ⟨y, hy', rfl⟩ := List.mem_map.1 hy
      have k1 := hs _ (List.mem_map_of_mem hy')
      have k2 := hle x hx
      rw [← e] at hs2
      rw [tn_crs', crs_sb] at k1 k2
      rw [crs_add] at k1
      rw [crs_add, crs_ngr] at hs2
      omega
end Go.Proofs.YtdagomikjblgiaaGreat

/-
  Sums, separating edges, widths and moves of polygons: what the functions answer, said of lists.
-/

namespace Go.Proofs.YtdagomikjblgiaaGreat
open Go.RowKit
set_option linter.unusedVariables false
noncomputable def sumL (a b : List V2) : List V2 := if polyB a = true ∧ polyB b = true ∧ polyB (hullV (sumV a b)) = true then hullV (sumV a b) else []
theorem sumL_no {a b : List V2} (h : polyB (hullV (sumV a b)) = false) : sumL a b = [] := by unfold sumL; rw [if_neg (by simp [h])]
theorem sumL_is {a b : List V2} (h1 : polyB a = true) (h2 : polyB b = true) (h3 : polyB (hullV (sumV a b)) = true) : sumL a b = hullV (sumV a b) := by unfold sumL; rw [if_pos ⟨h1, h2, h3⟩]
theorem wfV_sum {a b : List V2} (ha : polyP a) (hb : polyP b) : wfV (sumV a b) := by
  intro x hx
  obtain ⟨p, hp, q, hq, rfl⟩ := sumV_mem.1 hx
  obtain ⟨i, hi, rfl⟩ := mem_at hp
  obtain ⟨j, hj, rfl⟩ := mem_at hq
  have h1 := vecB_bounds (poly_vec ha hi)
  have h2 := vecB_bounds (poly_vec hb hj)
  unfold addV
  exact ⟨WalkArith.wf_i64 ⟨by simp only; omega, by simp only; omega⟩, WalkArith.wf_i64 ⟨by simp only; omega, by simp only; omega⟩⟩
theorem sumL_wf (a b : List V2) : wfV (sumL a b) := by
  unfold sumL
  split
  · rename_i h
    exact hullV_wf (wfV_sum (polyB_iff.1 h.1) (polyB_iff.1 h.2.1))
  · intro v hv; simp at hv
theorem sumL_len (a b : List V2) : (sumL a b).length ≤ 1048576 := by
  unfold sumL
  split
  · exact hullV_len _
  · simp
noncomputable def obsL (r o : List V2) : List V2 := sumL o (negL r)
/-- all points of b are right of edge i of a -/
def sepI (a b : List V2) (i : Nat) : Bool := b.all fun q => decide (tV (atV a i) (atV a ((i + 1) % a.length)) q < 0)
def sepK (a b : List V2) : Int := match (List.range a.length).find? (sepI a b) with | some i => (i : Int) | none => -1
theorem sepK_at {a b : List V2} {k : Nat} (hk : k < a.length) (h : ∀ i, i < k → sepI a b i = false) (hs : sepI a b k = true) : sepK a b = k := by
  unfold sepK
  have : (List.range a.length).find? (sepI a b) = some k := by
    rw [List.find?_range_eq_some]
    exact ⟨hs, List.mem_range.2 hk, fun j hj => by rw [h j hj]; rfl⟩
  rw [this]
theorem sepK_no {a b : List V2} (h : ∀ i, i < a.length → sepI a b i = false) : sepK a b = -1 := by
  unfold sepK
  have : (List.range a.length).find? (sepI a b) = none := by
    rw [List.find?_eq_none]
    intro i hi
    rw [h i (List.mem_range.1 hi)]; simp
  rw [this]
theorem sepI_yes {a b : List V2} {i : Nat} : sepI a b i = true ↔ ∀ q ∈ b, tV (atV a i) (atV a ((i + 1) % a.length)) q < 0 := by
  unfold sepI; rw [List.all_eq_true]; simp
theorem sepK_range (a b : List V2) : -1 ≤ sepK a b ∧ sepK a b < (a.length : Int) + 1 := by
  by_cases h : ∃ k, k < a.length ∧ sepI a b k = true
  · unfold sepK
    cases e : (List.range a.length).find? (sepI a b) with
    | none => simp only; omega
    | some i =>
      have := List.mem_range.1 (List.mem_of_find?_eq_some e)
      simp only; omega
  · rw [sepK_no fun i hi => by
      cases e : sepI a b i with
      | false => rfl
      | true => exact (h ⟨i, hi, e⟩).elim]
    omega
noncomputable def sepL (a b : List V2) : Int := if polyB a = true ∧ polyB b = true then sepK a b else -1
theorem sepL_is {a b : List V2} (h1 : polyB a = true) (h2 : polyB b = true) : sepL a b = sepK a b := by unfold sepL; rw [if_pos ⟨h1, h2⟩]
theorem sepL_range (a b : List V2) : -1 ≤ sepL a b ∧ sepL a b ≤ 16 := by
  unfold sepL
  split
  · rename_i h
    have := sepK_range a b
    have := (polyB_iff.1 h.1).2.1
    omega
  · omega
noncomputable def touB (a b : List V2) : Bool := polyB a && (polyB b && (decide (sepL a b < 0) && decide (sepL b a < 0)))
/-- each corner moved by v, where all of them stay in range -/
def mvL (l : List V2) (v : V2) : List V2 := if vecV v = true ∧ allV (l.map fun p => addV p v) = true then l.map fun p => addV p v else []
theorem mvL_wf {l : List V2} (v : V2) : wfV (mvL l v) := by
  unfold mvL
  split
  · rename_i h
    intro x hx
    have := vecB_bounds (List.all_eq_true.1 h.2 x hx)
    exact ⟨WalkArith.wf_i64 ⟨by omega, by omega⟩, WalkArith.wf_i64 ⟨by omega, by omega⟩⟩
  · intro x hx; simp at hx
theorem mvL_len {l : List V2} (v : V2) : (mvL l v).length ≤ l.length := by
  unfold mvL
  split
  · simp
  · simp
end Go.Proofs.YtdagomikjblgiaaGreat
