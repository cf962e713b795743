/-
  The texts SumP, SumA, MinM, put together; each has its own heading below. No condition of ours.
-/
import Derived.Test.YtdagomikjblgiaaPX
/-
  Sums of two polygons: how many corners, what lies inside, what separates two polygons.
-/

namespace Go.Proofs.Ytdagomikjblgiaa
open Go.RowKit
set_option linter.unusedVariables false
def addV (u v : V2) : V2 := (u.1 + v.1, u.2 + v.2)
def sumV (a b : List V2) : List V2 := a.flatMap fun v => b.map fun w => addV v w
theorem sumV_mem {a b : List V2} {x : V2} : x ∈ sumV a b ↔ ∃ p, p ∈ a ∧ ∃ q, q ∈ b ∧ addV p q = x := by simp [sumV]
theorem sumV_of {a b : List V2} {p q : V2} (hp : p ∈ a) (hq : q ∈ b) : addV p q ∈ sumV a b := sumV_mem.2 ⟨p, hp, q, hq, rfl⟩
theorem sumV_len (a b : List V2) : (sumV a b).length = a.length * b.length := by
  induction a with
  | nil => simp [sumV]
  | cons v a ih =>
    have e : sumV (v :: a) b = b.map (fun w => addV v w) ++ sumV a b := by simp [sumV]
    rw [e, List.length_append, ih, List.length_map, List.length_cons, Nat.add_mul]; omega
def dt (u w : V2) : Int := u.1 * w.1 + u.2 * w.2
/-- w points where u points -/
def pr (u w : V2) : Prop := crs u w = 0 ∧ 0 < dt u w
theorem sq_nn (x : Int) : 0 ≤ x * x := by
  rcases Int.le_total 0 x with h | h
  · exact Int.mul_nonneg h h
  · exact Int.mul_nonneg_of_nonpos_of_nonpos h h
theorem sq_pos {x : Int} (h : x ≠ 0) : 0 < x * x := by
  rcases Int.lt_or_gt_of_ne h with k | k
  · exact Int.mul_pos_of_neg_of_neg k k
  · exact Int.mul_pos k k
theorem dt_pos {u w : V2} (h : 0 < dt u w) : 0 < dt u u := by
  unfold dt at *
  have h1 := sq_nn u.1
  have h2 := sq_nn u.2
  by_cases e1 : u.1 = 0
  · by_cases e2 : u.2 = 0
    · rw [e1, e2] at h; simp at h
    · have := sq_pos e2; omega
  · have := sq_pos e1; omega
theorem sgn_eq {A B x y : Int} (hA : 0 < A) (hB : 0 < B) (e : A * x = B * y) : (0 < x ↔ 0 < y) ∧ (0 ≤ x ↔ 0 ≤ y) :=
  ⟨⟨fun h => mpos' hB (by rw [← e]; exact Int.mul_pos hA h), fun h => mpos' hA (by rw [e]; exact Int.mul_pos hB h)⟩,
   ⟨fun h => mpos hB (by rw [← e]; exact Int.mul_nonneg (by omega) h), fun h => mpos hA (by rw [e]; exact Int.mul_nonneg (by omega) h)⟩⟩
theorem pr_sgn {u w : V2} (h : pr u w) (z : V2) : (0 < crs w z ↔ 0 < crs u z) ∧ (0 ≤ crs w z ↔ 0 ≤ crs u z) := by
  refine sgn_eq (dt_pos h.2) h.2 ?_
  have e : dt u u * crs w z = dt u w * crs u z - crs u w * dt z u := by unfold dt crs; grind
  rw [e, h.1]; omega
theorem crs_sb (u p q : V2) : crs u (sb p q) = crs u q - crs u p := by unfold crs sb; grind
theorem crs_self (u : V2) : crs u u = 0 := by unfold crs; grind
theorem crs_add (u p q : V2) : crs u (addV p q) = crs u p + crs u q := by unfold crs addV; grind
theorem crs_ngr (u p : V2) : crs u (ng p) = - crs u p := by unfold crs ng; grind
theorem at_mem {l : List V2} {i : Nat} (h : i < l.length) : atV l i ∈ l := by rw [atV_eq h]; exact List.getElem_mem h
theorem mem_at {l : List V2} {x : V2} (h : x ∈ l) : ∃ i, i < l.length ∧ atV l i = x := by
  obtain ⟨i, hi, e⟩ := List.getElem_of_mem h
  exact ⟨i, hi, by rw [atV_eq hi, e]⟩
/-- what lies farthest against u, and leads on along u, is an edge -/
theorem face {D : List V2} (h : polyP D) {u p p' : V2} (hp : p ∈ D) (hp' : p' ∈ D) (hm : ∀ x ∈ D, crs u p ≤ crs u x) (hpr : pr u (sb p p')) :
    ∃ i, i < D.length ∧ atV D i = p ∧ atV D ((i + 1) % D.length) = p' := by
  obtain ⟨i, hi, e⟩ := mem_at hp
  obtain ⟨j, hj, e'⟩ := mem_at hp'
  refine ⟨i, hi, e, ?_⟩
  have hi1 : (i + 1) % D.length < D.length := Nat.mod_lt _ (by omega)
  by_cases k : j = (i + 1) % D.length
  · rw [← k, e']
  · exfalso
    have hne : j ≠ i := fun k => by
      subst k
      rw [e] at e'
      subst e'
      have := hpr.2
      unfold dt sb at this
      simp at this
    have h1 := h.2.2 i hi j hj hne k
    rw [tV_tn (poly_vec h hi) (poly_vec h hi1) (poly_vec h hj), e, e', tn_crs'] at h1
    have h2 := hm _ (at_mem hi1)
    generalize atV D ((i + 1) % D.length) = q at *
    have h3 := (pr_sgn hpr (sb p q)).2
    have h4 := crs_sb u p q
    have h5 := crs_swap (sb p q) (sb p p')
    have := h3.2 (by omega)
    omega
theorem third {k i : Nat} (h3 : 3 ≤ k) (hi : i < k) : ∃ j, j < k ∧ j ≠ i ∧ j ≠ (i + 1) % k := by
  generalize (i + 1) % k = m
  by_cases h0 : 0 ≠ i ∧ 0 ≠ m
  · exact ⟨0, by omega, h0.1, h0.2⟩
  by_cases h1 : 1 ≠ i ∧ 1 ≠ m
  · exact ⟨1, by omega, h1.1, h1.2⟩
  exact ⟨2, by omega, by omega, by omega⟩
theorem tn_same (a x : V2) : tn a a x = 0 := by unfold tn; grind
section
variable {a b : List V2} (hl : (sumV a b).length ≤ 64) (hv : allV (sumV a b) = true) (h2 : 2 ≤ (srtV (sumV a b)).length) (h3 : 3 ≤ (hullV (sumV a b)).length)
include hl hv h2 h3
theorem edge_ne {i : Nat} (hi : i < (hullV (sumV a b)).length) : atV (hullV (sumV a b)) i ≠ atV (hullV (sumV a b)) ((i + 1) % (hullV (sumV a b)).length) := by
  intro e
  obtain ⟨j, hj, n1, n2⟩ := third h3 hi
  have := (hull_edge hl hv h2 hi).2 j hj n1 n2
  rw [e, tn_same] at this
  omega
theorem sum_edge {i : Nat} (hi : i < (hullV (sumV a b)).length) {u : V2} (hu : u = sb (atV (hullV (sumV a b)) i) (atV (hullV (sumV a b)) ((i + 1) % (hullV (sumV a b)).length))) :
    ∃ p p' q q', p ∈ a ∧ p' ∈ a ∧ q ∈ b ∧ q' ∈ b ∧ atV (hullV (sumV a b)) i = addV p q ∧ (∀ y ∈ a, crs u p ≤ crs u y) ∧ (∀ y ∈ b, crs u q ≤ crs u y) ∧ (pr u (sb p p') ∨ pr u (sb q q')) := by
  have hi1 : (i + 1) % (hullV (sumV a b)).length < (hullV (sumV a b)).length := Nat.mod_lt _ (by omega)
  have hne := edge_ne hl hv h2 h3 hi
  have hleft := (hull_edge hl hv h2 hi).1
  obtain ⟨p, hp, q, hq, e⟩ := sumV_mem.1 (hullV_mem _ (at_mem hi))
  obtain ⟨p', hp', q', hq', e'⟩ := sumV_mem.1 (hullV_mem _ (at_mem hi1))
  generalize atV (hullV (sumV a b)) i = c at *
  generalize atV (hullV (sumV a b)) ((i + 1) % (hullV (sumV a b)).length) = d at *
  have hL : ∀ x ∈ sumV a b, crs u c ≤ crs u x := fun x hx => by
    have := hleft x hx
    rw [tn_crs', ← hu, crs_sb] at this
    omega
  have huu : crs u c = crs u d := by
    have := crs_self u
    conv at this => lhs; arg 2; rw [hu]
    rw [crs_sb] at this
    omega
  have ec := crs_add u p q
  have ed := crs_add u p' q'
  rw [e] at ec
  rw [e'] at ed
  have k1 := hL _ (sumV_of hp hq')
  have k2 := hL _ (sumV_of hp' hq)
  rw [crs_add] at k1 k2
  refine ⟨p, p', q, q', hp, hp', hq, hq', e.symm, fun y hy => ?_, fun y hy => ?_, ?_⟩
  · have := hL _ (sumV_of hy hq)
    rw [crs_add] at this; omega
  · have := hL _ (sumV_of hp hy)
    rw [crs_add] at this; omega
  · have z1 : crs u (sb p p') = 0 := by rw [crs_sb]; omega
    have z2 : crs u (sb q q') = 0 := by rw [crs_sb]; omega
    have hd : 0 < dt u u := by
      have h1 := sq_nn u.1
      have h2 := sq_nn u.2
      unfold dt
      by_cases e1 : u.1 = 0
      · by_cases e2 : u.2 = 0
        · exfalso
          apply hne
          rw [hu] at e1 e2
          unfold sb at e1 e2
          exact Prod.ext (by simp only at e1; omega) (by simp only at e2; omega)
        · have := sq_pos e2; omega
      · have := sq_pos e1; omega
    have hs : dt u u = dt u (sb p p') + dt u (sb q q') := by
      have : u = addV (sb p p') (sb q q') := by
        rw [hu, ← e, ← e']; unfold sb addV; exact Prod.ext (by simp only; omega) (by simp only; omega)
      conv => lhs; arg 2; rw [this]
      unfold dt addV; grind
    by_cases hx : 0 < dt u (sb p p')
    · exact .inl ⟨z1, hx⟩
    · exact .inr ⟨z2, by omega⟩
end
theorem nodup_leN {l : List Nat} : ∀ {X : List Nat}, l.Nodup → (∀ x ∈ l, x ∈ X) → l.length ≤ X.length := by
  induction l with
  | nil => intro X _ _; simp
  | cons a l ih =>
    intro X hn hs
    have hn' := List.nodup_cons.1 hn
    have := ih (X := X.erase a) hn'.2 (fun x hx => (List.mem_erase_of_ne (fun e => hn'.1 (by rw [← e]; exact hx))).2 (hs x (List.mem_cons_of_mem _ hx)))
    have ha := hs a (by simp)
    rw [List.length_erase_of_mem ha] at this
    have := List.length_pos_of_mem ha
    simp; omega
theorem inj_le {k m : Nat} (f : Nat → Nat) (h1 : ∀ i, i < k → f i < m) (h2 : ∀ i j, i < k → j < k → f i = f j → i = j) : k ≤ m := by
  have hn : ((List.range k).map f).Nodup := by
    unfold List.Nodup
    rw [List.pairwise_map]
    refine List.Pairwise.imp_of_mem ?_ (List.nodup_range (n := k))
    intro x y hx hy hne e
    exact hne (h2 x y (List.mem_range.1 hx) (List.mem_range.1 hy) e)
  have := nodup_leN hn (X := List.range m) (fun x hx => by
    obtain ⟨i, hi, rfl⟩ := List.mem_map.1 hx
    exact List.mem_range.2 (h1 i (List.mem_range.1 hi)))
  simpa using this
/-- which edges of both polygons an edge of the sum goes along -/
def alongE (a b : List V2) (u : V2) (t : Nat) : Prop :=
  if t < a.length then pr u (sb (atV a t) (atV a ((t + 1) % a.length))) else pr u (sb (atV b (t - a.length)) (atV b ((t - a.length + 1) % b.length)))
theorem next_ne {k i j : Nat} (h3 : 3 ≤ k) (hi : i < k) (hj : j = (i + 1) % k) : (j + 1) % k ≠ i ∧ (j + 1) % k ≠ (i + 1) % k := by
  by_cases e : i + 1 < k
  · rw [Nat.mod_eq_of_lt e] at hj ⊢
    subst hj
    by_cases e2 : i + 1 + 1 < k
    · rw [Nat.mod_eq_of_lt e2]; omega
    · have : i + 1 + 1 = k := by omega
      rw [this, Nat.mod_self]; omega
  · have : i + 1 = k := by omega
    rw [this, Nat.mod_self] at hj ⊢
    subst hj
    rw [Nat.mod_eq_of_lt (by omega)]; omega
theorem sum_few {a b : List V2} (ha : polyP a) (hb : polyP b) (hl : (sumV a b).length ≤ 64) (hv : allV (sumV a b) = true) (h2 : 2 ≤ (srtV (sumV a b)).length) (h3 : 3 ≤ (hullV (sumV a b)).length) :
    (hullV (sumV a b)).length ≤ a.length + b.length := by
  have hex : ∀ i, ∃ t, i < (hullV (sumV a b)).length → t < a.length + b.length ∧ alongE a b (sb (atV (hullV (sumV a b)) i) (atV (hullV (sumV a b)) ((i + 1) % (hullV (sumV a b)).length))) t := by
    intro i
    by_cases hi : i < (hullV (sumV a b)).length
    · obtain ⟨p, p', q, q', hp, hp', hq, hq', e, m1, m2, hpr⟩ := sum_edge hl hv h2 h3 hi rfl
      rcases hpr with hpr | hpr
      · obtain ⟨t, ht, e1, e2⟩ := face ha hp hp' m1 hpr
        refine ⟨t, fun _ => ⟨by omega, ?_⟩⟩
        unfold alongE
        rw [if_pos ht, e1, e2]; exact hpr
      · obtain ⟨t, ht, e1, e2⟩ := face hb hq hq' m2 hpr
        refine ⟨a.length + t, fun _ => ⟨by omega, ?_⟩⟩
        unfold alongE
        rw [if_neg (by omega), Nat.add_sub_cancel_left, e1, e2]; exact hpr
    · exact ⟨0, fun h => (hi h).elim⟩
  obtain ⟨f, hf⟩ := Classical.axiomOfChoice hex
  refine inj_le f (fun i hi => (hf i hi).1) fun i j hi hj e => ?_
  have r1 := (hf i hi).2
  have r2 := (hf j hj).2
  rw [← e] at r2
  have hi1 : (i + 1) % (hullV (sumV a b)).length < (hullV (sumV a b)).length := Nat.mod_lt _ (by omega)
  have hj1 : (j + 1) % (hullV (sumV a b)).length < (hullV (sumV a b)).length := Nat.mod_lt _ (by omega)
  have hs : ∀ z, 0 ≤ crs (sb (atV (hullV (sumV a b)) i) (atV (hullV (sumV a b)) ((i + 1) % (hullV (sumV a b)).length))) z ↔ 0 ≤ crs (sb (atV (hullV (sumV a b)) j) (atV (hullV (sumV a b)) ((j + 1) % (hullV (sumV a b)).length))) z := by
    intro z
    unfold alongE at r1 r2
    split at r1
    · rw [if_pos (by assumption)] at r2
      exact (pr_sgn r1 z).2.symm.trans (pr_sgn r2 z).2
    · rw [if_neg (by assumption)] at r2
      exact (pr_sgn r1 z).2.symm.trans (pr_sgn r2 z).2
  have hij := (hull_edge hl hv h2 hi).1 _ (hullV_mem _ (at_mem hj))
  have hji := (hull_edge hl hv h2 hj).1 _ (hullV_mem _ (at_mem hi))
  have hst := (hull_edge hl hv h2 hi).2
  by_cases k1 : j = i
  · exact k1.symm
  exfalso
  have t1 : tn (atV (hullV (sumV a b)) i) (atV (hullV (sumV a b)) ((i + 1) % (hullV (sumV a b)).length)) (atV (hullV (sumV a b)) j) = 0 := by
    rw [tn_crs'] at hij hji ⊢
    have := (hs _).2 hji
    rw [crs_sb] at *
    omega
  have k2 : j = (i + 1) % (hullV (sumV a b)).length := by
    by_cases k : j = (i + 1) % (hullV (sumV a b)).length
    · exact k
    · have := hst j hj k1 k; omega
  obtain ⟨k3, k4⟩ := next_ne h3 hi k2
  have t2 := hst _ hj1 k3 k4
  generalize atV (hullV (sumV a b)) i = c at *
  generalize atV (hullV (sumV a b)) ((i + 1) % (hullV (sumV a b)).length) = d at *
  generalize atV (hullV (sumV a b)) j = c' at *
  generalize atV (hullV (sumV a b)) ((j + 1) % (hullV (sumV a b)).length) = d' at *
  have s1 := (hs (sb c' d')).2 (by rw [crs_self]; omega)
  have s2 := (hs (ng (sb c' d'))).2 (by rw [crs_ngr, crs_self]; omega)
  rw [crs_ngr] at s2
  rw [tn_crs'] at t1 t2
  rw [crs_sb] at *
  omega
theorem hull_polyN {l D : List V2} (hl : l.length ≤ 64) (h16 : (hullV l).length ≤ 16) (hv : allV l = true) (h2 : 2 ≤ (srtV l).length) (h3 : 3 ≤ (hullV l).length) : polyP (hullV l) := by
  have hva := allV_mem hv (hullV_mem (l := l))
  have hvv : ∀ k, k < (hullV l).length → vecV (atV (hullV l) k) = true := fun k hk => by rw [atV_eq hk]; exact allV_at hva hk
  refine ⟨h3, h16, fun i hi j hj n1 n2 => ?_⟩
  rw [tV_tn (hvv i hi) (hvv _ (Nat.mod_lt _ (by omega))) (hvv j hj)]
  exact (hull_edge (by omega) hv h2 hi).2 j hj n1 n2
theorem tn_addr (a b c z : V2) : tn (addV a z) (addV b z) (addV c z) = tn a b c := by unfold tn addV; grind
theorem addV_comm (a b : V2) : addV a b = addV b a := by unfold addV; rw [Int.add_comm, Int.add_comm a.2]
/-- three points of a sum that are not on one line -/
theorem sum_three {a b : List V2} (ha : polyP a) (hb : polyP b) (hl : (sumV a b).length ≤ 64) (hv : allV (sumV a b) = true) : 2 ≤ (srtV (sumV a b)).length ∧ 3 ≤ (hullV (sumV a b)).length := by
  obtain ⟨p, q, r, hp, hq, hr, ht⟩ := poly_three ha
  have hb0 : 0 < b.length := by have := hb.1; omega
  have hz := at_mem hb0
  generalize atV b 0 = z at *
  have m1 := sumV_of hp hz
  have m2 := sumV_of hq hz
  have m3 := sumV_of hr hz
  have h2 : 2 ≤ (srtV (sumV a b)).length := by
    have ma := (srtV_mem (sumV a b) _).2 m1
    have mb := (srtV_mem (sumV a b) _).2 m2
    rcases Nat.lt_or_ge (srtV (sumV a b)).length 2 with k | k
    · exfalso
      have e : addV p z = addV q z := by
        match hq : srtV (sumV a b), k with
        | [], _ => rw [hq] at ma; simp at ma
        | [u], _ => rw [hq] at ma mb; simp at ma mb; rw [ma, mb]
        | _ :: _ :: _, k => simp only [List.length_cons] at k; omega
      have : tn p q r = 0 := by rw [← tn_addr p q r z, e, tn_same]
      omega
    · exact k
  refine ⟨h2, ?_⟩
  obtain ⟨s, m, t, e⟩ := ends2 h2
  have H := hull_of (srtV_asc (sumV a b)) e
  have eo : hullV (sumV a b) = outL (chain (srtV (sumV a b))) (hiC (srtV (sumV a b))) := by rw [hullV_eq hl hv, hul2_out h2]
  rw [eo]
  exact H.three ((srtV_mem _ _).2 m1) ((srtV_mem _ _).2 m2) ((srtV_mem _ _).2 m3) (by rw [tn_addr]; omega)
theorem sum_poly {a b : List V2} (ha : polyP a) (hb : polyP b) (hab : a.length + b.length ≤ 16) (hv : allV (sumV a b) = true) : polyP (hullV (sumV a b)) := by
  have hl : (sumV a b).length ≤ 64 := by
    rw [sumV_len]
    have : ∀ m n : Nat, m + n ≤ 16 → m * n ≤ 64 := by
      intro m n h
      have h1 : (m : Int) * n ≤ 64 := by
        have := sq_nn ((m : Int) - n)
        have h2 : ((m : Int) + n) * (m + n) ≤ 16 * 16 := Int.mul_le_mul (by omega) (by omega) (by omega) (by omega)
        have e : ((m : Int) + n) * (m + n) = ((m : Int) - n) * (m - n) + 4 * (m * n) := by grind
        omega
      have : ((m * n : Nat) : Int) ≤ 64 := by rw [Int.natCast_mul]; exact h1
      omega
    exact this _ _ hab
  obtain ⟨h2, h3⟩ := sum_three ha hb hl hv
  exact hull_polyN (D := a) hl (Nat.le_trans (sum_few ha hb hl hv h2 h3) hab) hv h2 h3
end Go.Proofs.Ytdagomikjblgiaa

/-
  Sums of two polygons: the order does not matter, the area is at least both areas.
-/

namespace Go.Proofs.Ytdagomikjblgiaa
open Go.RowKit
set_option linter.unusedVariables false
theorem sumV_sw {a b : List V2} (x : V2) : x ∈ sumV a b ↔ x ∈ sumV b a := by
  rw [sumV_mem, sumV_mem]
  constructor
  · rintro ⟨p, hp, q, hq, e⟩; exact ⟨q, hq, p, hp, by rw [addV_comm, e]⟩
  · rintro ⟨p, hp, q, hq, e⟩; exact ⟨q, hq, p, hp, by rw [addV_comm, e]⟩
theorem allV_sw (a b : List V2) : allV (sumV a b) = allV (sumV b a) := by
  rw [Bool.eq_iff_iff]
  exact ⟨fun h => allV_mem h fun x hx => (sumV_sw x).1 hx, fun h => allV_mem h fun x hx => (sumV_sw x).1 hx⟩
theorem srtV_sw (a b : List V2) : srtV (sumV a b) = srtV (sumV b a) := srtV_of (srtV_asc _) fun x => (srtV_mem _ x).trans (sumV_sw x)
theorem hullV_sw (a b : List V2) : hullV (sumV a b) = hullV (sumV b a) := by
  unfold hullV
  rw [sumV_len, sumV_len, Nat.mul_comm, allV_sw, srtV_sw]
theorem lt_addl {a b : V2} (z : V2) : lt2 (addV z a) (addV z b) ↔ lt2 a b := by unfold lt2 addV; simp only; omega
theorem desc_shift (z : V2) {T : List V2} (h : desc T) : desc (T.map (addV z)) := by
  unfold desc at *
  rw [List.pairwise_map]
  exact h.imp fun {a b} k => (lt_addl z).2 k
theorem Fs_shift (z s : V2) : ∀ (T : List V2) (t : V2), T.head? = some t → T.getLast? = some s → Fs (T.map (addV z)) = Fs T + crs z (sb s t) := by
  intro T
  induction T with
  | nil => intro t h; simp at h
  | cons b T ih =>
    intro t h1 h2
    simp at h1
    subst h1
    match T, ih with
    | [], _ =>
      simp at h2
      subst h2
      simp only [List.map, Fs]
      unfold crs sb; grind
    | a :: r, ih =>
      have := ih a rfl (by simpa [List.getLast?_cons_cons] using h2)
      simp only [List.map_cons] at this ⊢
      simp only [Fs] at this ⊢
      rw [this]
      have e : crs (addV z a) (addV z b) = crs a b + crs z (sb a b) := by unfold crs addV sb; grind
      have e2 : crs z (sb s b) = crs z (sb s a) + crs z (sb a b) := by unfold crs sb; grind
      omega
theorem Fs_join : ∀ (l r : List V2) (t : V2), Fs (l ++ t :: r) = Fs (l ++ [t]) + Fs (t :: r) := by
  intro l
  induction l with
  | nil => intro r t; simp [Fs]
  | cons c l ih =>
    intro r t
    match l, ih with
    | [], _ => simp [Fs]
    | d :: l, ih =>
      have := ih r t
      simp only [List.cons_append, Fs] at this ⊢
      omega
theorem asc_first {xs : List V2} (ha : asc xs) {s : V2} (hs : s ∈ xs) (hm : ∀ x ∈ xs, x = s ∨ lt2 s x) : ∃ ys, xs = s :: ys := by
  match xs, ha, hs, hm with
  | y :: ys, ha, hs, hm =>
    rcases List.mem_cons.1 hs with rfl | hs
    · exact ⟨ys, rfl⟩
    · exfalso
      have h1 := (List.pairwise_cons.1 ha).1 s hs
      rcases hm y (by simp) with rfl | h2
      · exact lt_irrefl _ h1
      · exact lt_asymm h1 h2
theorem lt_add2 {a b c d : V2} (h1 : a = b ∨ lt2 b a) (h2 : c = d ∨ lt2 d c) : addV a c = addV b d ∨ lt2 (addV b d) (addV a c) := by
  rcases h1 with rfl | h1
  · rcases h2 with rfl | h2
    · exact .inl rfl
    · right; unfold lt2 addV at *; simp only; omega
  · right
    rcases h2 with rfl | h2
    · unfold lt2 addV at *; simp only; omega
    · unfold lt2 addV at *; simp only; omega
/-- the lower half of a sum is at least both lower halves, one behind the other -/
theorem low_sum {xs ys zs : List V2} (hx : asc xs) (hy : asc ys) (hz : asc zs) {s t s' t' : V2} {m m' : List V2} (e : xs = s :: m ++ [t]) (e' : ys = s' :: m' ++ [t'])
    (h1 : ∀ x ∈ xs, ∀ y ∈ ys, addV x y ∈ zs) (h2 : ∀ z ∈ zs, ∃ x ∈ xs, ∃ y ∈ ys, addV x y = z) :
    Fs (chain xs) + crs s' (sb s t) + (Fs (chain ys) + crs t (sb s' t')) ≤ Fs (chain zs) := by
  have H := half_of hx e
  have H' := half_of hy e'
  obtain ⟨l1, l2⟩ := asc_lo hx e
  obtain ⟨l1', l2'⟩ := asc_lo hy e'
  obtain ⟨r, er, hr, lr⟩ := H.cons
  obtain ⟨r', er', hr', lr'⟩ := H'.cons
  have ms : s ∈ xs := by rw [e]; simp
  have mt : t ∈ xs := by rw [e]; simp
  have ms' : s' ∈ ys := by rw [e']; simp
  have mt' : t' ∈ ys := by rw [e']; simp
  have k1 := Fs_shift s' s _ _ H.hd H.lo
  have k2 := Fs_shift t s' _ _ H'.hd H'.lo
  rw [← k1, ← k2]
  -- the upper part: ys' half moved by t; below it xs' half moved by s'
  have eq : (chain ys).map (addV t) = ((chain ys).dropLast).map (addV t) ++ [addV s' t] := by
    have hne : chain ys ≠ [] := by rw [er']; simp
    have hl : (chain ys).getLast hne = s' := by
      have := H'.lo
      rw [List.getLast?_eq_some_getLast hne] at this
      exact Option.some.inj this
    conv => lhs; rw [← List.dropLast_concat_getLast hne, hl]
    rw [List.map_append]
    simp [addV_comm]
  have eq2 : (chain xs).map (addV s') = addV s' t :: r.map (addV s') := by rw [er]; rfl
  rw [eq, eq2, Int.add_comm, ← Fs_join]
  have e3 : ((chain ys).dropLast).map (addV t) ++ addV s' t :: r.map (addV s') = ((chain ys).map (addV t)) ++ r.map (addV s') := by rw [eq, List.append_assoc]; rfl
  rw [e3]
  have e4 : (chain ys).map (addV t) = addV t t' :: r'.map (addV t) := by rw [er']; rfl
  rw [e4, List.cons_append]
  have mem2 : ∀ q, q ∈ (chain ys).map (addV t) → ∃ y ∈ ys, q = addV t y := fun q hq => by
    obtain ⟨y, hy', rfl⟩ := List.mem_map.1 hq
    exact ⟨y, H'.sub y hy', rfl⟩
  have mem1 : ∀ q, q ∈ r.map (addV s') → ∃ x ∈ xs, lt2 x t ∧ q = addV s' x := fun q hq => by
    obtain ⟨x, hx', rfl⟩ := List.mem_map.1 hq
    have hd := H.d
    rw [er] at hd
    exact ⟨x, H.sub x (by rw [er]; exact List.mem_cons_of_mem _ hx'), desc_hd hd hx', rfl⟩
  refine path_le (s := addV s s') hz (asc_first hz (h1 s ms s' ms') fun z hz' => ?_) ⟨?_, ?_, ?_⟩ fun z hz' => ?_
  · obtain ⟨x, hx', y, hy', rfl⟩ := h2 z hz'
    exact lt_add2 (l1 x hx') (l1' y hy')
  · rw [← List.cons_append, ← e4]
    refine List.pairwise_append.2 ⟨desc_shift t H'.d, ?_, fun q hq q' hq' => ?_⟩
    · have hd := H.d
      rw [er] at hd
      exact desc_shift s' (desc_tail hd)
    · obtain ⟨y, hy', rfl⟩ := mem2 q hq
      obtain ⟨x, hx', hlt, rfl⟩ := mem1 q' hq'
      rcases l1' y hy' with rfl | k
      · unfold lt2 addV at *; simp only; omega
      · unfold lt2 addV at *; simp only; omega
  · rw [← List.cons_append, ← e4]
    intro q hq
    rcases List.mem_append.1 hq with hq | hq
    · obtain ⟨y, hy', rfl⟩ := mem2 q hq
      exact h1 t mt y hy'
    · obtain ⟨x, hx', hlt, rfl⟩ := mem1 q hq
      rw [addV_comm]; exact h1 x hx' s' ms'
  · rw [← List.cons_append, List.getLast?_append, List.getLast?_map, lr]
    simp [addV_comm]
  · obtain ⟨x, hx', y, hy', rfl⟩ := h2 z hz'
    rcases l2 x hx' with rfl | k
    · rcases l2' y hy' with rfl | k'
      · exact .inl rfl
      · right; unfold lt2 addV at *; simp only; omega
    · right
      rcases l2' y hy' with rfl | k'
      · unfold lt2 addV at *; simp only; omega
      · unfold lt2 addV at *; simp only; omega
theorem ng_add (p q : V2) : ng (addV p q) = addV (ng p) (ng q) := by unfold ng addV; exact Prod.ext (by simp only; omega) (by simp only; omega)
theorem mem_rng {xs : List V2} {x : V2} : x ∈ xs.reverse.map ng ↔ ∃ y ∈ xs, ng y = x := by simp
theorem sum_area1 {xs ys zs : List V2} (hx : asc xs) (hy : asc ys) (hz : asc zs) {s t s' t' : V2} {m m' : List V2} (e : xs = s :: m ++ [t]) (e' : ys = s' :: m' ++ [t'])
    (h1 : ∀ x ∈ xs, ∀ y ∈ ys, addV x y ∈ zs) (h2 : ∀ z ∈ zs, ∃ x ∈ xs, ∃ y ∈ ys, addV x y = z) (hc : 0 ≤ crs (sb s t) (sb s' t')) :
    Fs (chain xs) + Fs (hiC xs) + (Fs (chain ys) + Fs (hiC ys)) ≤ Fs (chain zs) + Fs (hiC zs) := by
  have a1 := low_sum hx hy hz e e' h1 h2
  have a2 := low_sum (asc_ng hx) (asc_ng hy) (asc_ng hz) (s := ng t) (t := ng s) (s' := ng t') (t' := ng s') (m := m.reverse.map ng) (m' := m'.reverse.map ng) (by rw [e]; simp) (by rw [e']; simp)
    (fun x hx y hy => by
      obtain ⟨p, hp, rfl⟩ := mem_rng.1 hx
      obtain ⟨q, hq, rfl⟩ := mem_rng.1 hy
      exact mem_rng.2 ⟨_, h1 p hp q hq, ng_add p q⟩)
    (fun z hz => by
      obtain ⟨r, hr, rfl⟩ := mem_rng.1 hz
      obtain ⟨p, hp, q, hq, rfl⟩ := h2 r hr
      exact ⟨_, mem_rng.2 ⟨p, hp, rfl⟩, _, mem_rng.2 ⟨q, hq, rfl⟩, (ng_add p q).symm⟩)
  rw [chain_ng, chain_ng, chain_ng, Fs_ng, Fs_ng, Fs_ng] at a2
  have e1 : crs s' (sb s t) + crs t (sb s' t') + crs (ng t') (sb (ng t) (ng s)) + crs (ng s) (sb (ng t') (ng s')) = 2 * crs (sb s t) (sb s' t') := by unfold crs sb ng; grind
  show Fs (chain xs) + Fs (chain xs.reverse) + (Fs (chain ys) + Fs (chain ys.reverse)) ≤ Fs (chain zs) + Fs (chain zs.reverse)
  omega
theorem sum_area {a b : List V2} (ha : polyP a) (hb : polyP b) (hA : hullV a = a) (hB : hullV b = b) (hl : (sumV a b).length ≤ 64) (hv : allV (sumV a b) = true) : area2 a + area2 b ≤ area2 (hullV (sumV a b)) := by
  have va : allV a = true := List.all_eq_true.2 fun x hx => by obtain ⟨i, hi, rfl⟩ := mem_at hx; exact poly_vec ha hi
  have vb : allV b = true := List.all_eq_true.2 fun x hx => by obtain ⟨i, hi, rfl⟩ := mem_at hx; exact poly_vec hb hi
  have la : a.length ≤ 64 := by have := ha.2.1; omega
  have lb : b.length ≤ 64 := by have := hb.2.1; omega
  have k1 := srt_two ha (fun x hx => hx)
  have k2 := srt_two hb (fun x hx => hx)
  obtain ⟨k3, -⟩ := sum_three ha hb hl hv
  obtain ⟨s, m, t, e⟩ := ends2 k1
  obtain ⟨s', m', t', e'⟩ := ends2 k2
  obtain ⟨s2, m2, t2, e2⟩ := ends2 k3
  have H := hull_of (srtV_asc a) e
  have H' := hull_of (srtV_asc b) e'
  have H2 := hull_of (srtV_asc (sumV a b)) e2
  have a1 : area2 a = Fs (chain (srtV a)) + Fs (hiC (srtV a)) := by
    conv => lhs; rw [← hA]
    rw [hullV_eq la va, hul2_out k1]; exact H.area
  have a2 : area2 b = Fs (chain (srtV b)) + Fs (hiC (srtV b)) := by
    conv => lhs; rw [← hB]
    rw [hullV_eq lb vb, hul2_out k2]; exact H'.area
  have a3 : area2 (hullV (sumV a b)) = Fs (chain (srtV (sumV a b))) + Fs (hiC (srtV (sumV a b))) := by rw [hullV_eq hl hv, hul2_out k3]; exact H2.area
  rw [a1, a2, a3]
  rcases Int.le_total 0 (crs (sb s t) (sb s' t')) with hc | hc
  · exact sum_area1 (srtV_asc a) (srtV_asc b) (srtV_asc _) e e' (fun x hx y hy => (srtV_mem _ _).2 (sumV_of ((srtV_mem _ _).1 hx) ((srtV_mem _ _).1 hy)))
      (fun z hz => by obtain ⟨p, hp, q, hq, k⟩ := sumV_mem.1 ((srtV_mem _ _).1 hz); exact ⟨p, (srtV_mem _ _).2 hp, q, (srtV_mem _ _).2 hq, k⟩) hc
  · have := sum_area1 (srtV_asc b) (srtV_asc a) (srtV_asc (sumV a b)) e' e (fun x hx y hy => (srtV_mem _ _).2 (by rw [addV_comm]; exact sumV_of ((srtV_mem _ _).1 hy) ((srtV_mem _ _).1 hx)))
      (fun z hz => by obtain ⟨p, hp, q, hq, k⟩ := sumV_mem.1 ((srtV_mem _ _).1 hz); exact ⟨q, (srtV_mem _ _).2 hq, p, (srtV_mem _ _).2 hp, by rw [addV_comm]; exact k⟩) (by rw [crs_swap]; omega)
    omega
end Go.Proofs.Ytdagomikjblgiaa

/-
  Sums, separating edges, widths and moves of polygons: what the functions answer, said of lists.
-/

namespace Go.Proofs.Ytdagomikjblgiaa
open Go.RowKit
set_option linter.unusedVariables false
noncomputable def sumL (a b : List V2) : List V2 := if polyB a = true ∧ polyB b = true ∧ polyB (hullV (sumV a b)) = true then hullV (sumV a b) else []
theorem sumL_no {a b : List V2} (h : polyB (hullV (sumV a b)) = false) : sumL a b = [] := by unfold sumL; rw [if_neg (by simp [h])]
theorem sumL_is {a b : List V2} (h1 : polyB a = true) (h2 : polyB b = true) (h3 : polyB (hullV (sumV a b)) = true) : sumL a b = hullV (sumV a b) := by unfold sumL; rw [if_pos ⟨h1, h2, h3⟩]
theorem wfV_sum {a b : List V2} (ha : polyP a) (hb : polyP b) : wfV (sumV a b) := by
  intro x hx
  obtain ⟨p, hp, q, hq, rfl⟩ := sumV_mem.1 hx
  obtain ⟨i, hi, rfl⟩ := mem_at hp
  obtain ⟨j, hj, rfl⟩ := mem_at hq
  have h1 := vecB_bounds (poly_vec ha hi)
  have h2 := vecB_bounds (poly_vec hb hj)
  unfold addV
  exact ⟨WalkArith.wf_i64 ⟨by simp only; omega, by simp only; omega⟩, WalkArith.wf_i64 ⟨by simp only; omega, by simp only; omega⟩⟩
end Go.Proofs.Ytdagomikjblgiaa
