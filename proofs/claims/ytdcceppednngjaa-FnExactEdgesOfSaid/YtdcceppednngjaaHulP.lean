/-
  Convex hulls in the plane of whole numbers, by chains of corners: a chain of ascending points has all of them on its left, its corners turn left, no other path along the points has a greater sum of products; a hull's corners, the hull of a hull, areas. Nothing of the program stands here.
-/
import Derived.Test.YtdcceppednngjaaRows
namespace Go.Proofs.Ytdcceppednngjaa
abbrev V2 := Int × Int
/-- twice the area of a triangle -/
def tn (a b c : V2) : Int := (b.1 - a.1) * (c.2 - a.2) - (b.2 - a.2) * (c.1 - a.1)
def crs (u v : V2) : Int := u.1 * v.2 - u.2 * v.1
def lt2 (a b : V2) : Prop := a.1 < b.1 ∨ a.1 = b.1 ∧ a.2 < b.2
instance (a b : V2) : Decidable (lt2 a b) := inferInstanceAs (Decidable (_ ∨ _))
def ps2 (u : V2) : Prop := 0 < u.1 ∨ 0 = u.1 ∧ 0 < u.2
def sb (a b : V2) : V2 := (b.1 - a.1, b.2 - a.2)
theorem ps_sb {a b : V2} (h : lt2 a b) : ps2 (sb a b) := by
  unfold lt2 at h; unfold ps2 sb; simp only; omega
theorem lt_irrefl (a : V2) : ¬ lt2 a a := by unfold lt2; omega
theorem mpos' {a b : Int} (ha : 0 < a) (h : 0 < a * b) : 0 < b := by
  rcases Int.lt_or_le 0 b with k | k
  · exact k
  · have := Int.mul_nonpos_of_nonneg_of_nonpos (Int.le_of_lt ha) k; omega
theorem crs_id1 (u v w : V2) : v.1 * crs u w = u.1 * crs v w + w.1 * crs u v := by unfold crs; grind
theorem ps_nn {u : V2} (h : ps2 u) : 0 ≤ u.1 := by unfold ps2 at h; omega
theorem tr1 {u v w : V2} (hu : ps2 u) (hv : ps2 v) (hw : ps2 w) (h : 0 < crs u v) (k : 0 ≤ crs v w) : 0 < crs u w := by
  rcases hv with v1 | ⟨v1, v2⟩
  · rcases hw with w1 | ⟨w1, w2⟩
    · have i := crs_id1 u v w
      have a := Int.mul_nonneg (ps_nn hu) k
      have b := Int.mul_pos w1 h
      exact mpos' v1 (by omega)
    · unfold crs at h ⊢
      rw [← w1, Int.mul_zero, Int.sub_zero]
      rcases hu with u1 | ⟨u1, u2⟩
      · exact Int.mul_pos u1 w2
      · have := Int.mul_pos u2 v1
        rw [← u1, Int.zero_mul] at h; omega
  · have w1 : w.1 = 0 := by
      rcases hw with w1 | ⟨w1, _⟩
      · have := Int.mul_pos v2 w1
        unfold crs at k; rw [← v1] at k; simp at k; omega
      · exact w1.symm
    have w2 : 0 < w.2 := by unfold ps2 at hw; omega
    unfold crs at h ⊢
    rw [w1, Int.mul_zero, Int.sub_zero]
    rw [← v1, Int.mul_zero, Int.sub_zero] at h
    rcases hu with u1 | ⟨u1, u2⟩
    · exact Int.mul_pos u1 w2
    · rw [← u1, Int.zero_mul] at h; omega
theorem tr2 {u v w : V2} (hu : ps2 u) (hv : ps2 v) (hw : ps2 w) (h : 0 ≤ crs u v) (k : 0 < crs v w) : 0 < crs u w := by
  rcases hv with v1 | ⟨v1, v2⟩
  · rcases hu with u1 | ⟨u1, u2⟩
    · have i := crs_id1 u v w
      have a := Int.mul_pos u1 k
      have b := Int.mul_nonneg (ps_nn hw) h
      exact mpos' v1 (by omega)
    · exfalso
      have := Int.mul_pos u2 v1
      unfold crs at h; rw [← u1, Int.zero_mul] at h; omega
  · exfalso
    have := Int.mul_nonneg (Int.le_of_lt v2) (ps_nn hw)
    unfold crs at k; rw [← v1, Int.zero_mul] at k; omega
theorem tn_crs (a b c : V2) : tn a b c = crs (sb a b) (sb b c) := by unfold tn crs sb; grind
/-- x < b < p, a < b: x left of a, b, and p too: x is left of b, p -/
theorem back {a b p x : V2} (h1 : lt2 a b) (h2 : lt2 b p) (h3 : lt2 x b) (h : 0 ≤ tn a b x) (k : 0 < tn a b p) : 0 ≤ tn b p x := by
  rw [tn_crs] at k
  have e : tn a b x = crs (sb x b) (sb a b) := by unfold tn crs sb; grind
  rw [e] at h
  have := tr1 (v := sb a b) (ps_sb h2) (ps_sb h1) (ps_sb h3)
  have t := tr2 (ps_sb h3) (ps_sb h1) (ps_sb h2) h k
  have e2 : tn b p x = crs (sb x b) (sb b p) := by unfold tn crs sb; grind
  omega
def conv : List V2 → Prop
  | c :: b :: a :: s => 0 < tn a b c ∧ conv (b :: a :: s)
  | _ => True
def abv (x : V2) : List V2 → Prop
  | b :: a :: s => 0 ≤ tn a b x ∧ abv x (a :: s)
  | _ => True
def desc (T : List V2) : Prop := T.Pairwise fun x y => lt2 y x
theorem abv_tail {x b : V2} {T : List V2} (h : abv x (b :: T)) : abv x T := by
  match T, h with
  | [], _ => trivial
  | _ :: _, h => exact h.2
theorem desc_tail {b : V2} {T : List V2} (h : desc (b :: T)) : desc T := (List.pairwise_cons.1 h).2
theorem desc_hd {b : V2} {T : List V2} (h : desc (b :: T)) {x : V2} (hx : x ∈ T) : lt2 x b := (List.pairwise_cons.1 h).1 x hx
/-- a path: a stack of points of X that begins with s -/
structure Path (s : V2) (X G : List V2) : Prop where
  d : desc G
  sub : ∀ x ∈ G, x ∈ X
  lo : G.getLast? = some s
theorem Path.tail {s g : V2} {X G : List V2} (h : Path s X (g :: G)) (hG : G ≠ []) : Path s X G := by
  match G, hG with
  | a :: r, _ => exact ⟨desc_tail h.d, fun x hx => h.sub x (List.mem_cons_of_mem _ hx), by simpa [List.getLast?_cons_cons] using h.lo⟩
def ng (v : V2) : V2 := (-v.1, -v.2)
theorem ng_ng (v : V2) : ng (ng v) = v := by simp [ng]
theorem ng_inj {a b : V2} (h : ng a = ng b) : a = b := by rw [← ng_ng a, h, ng_ng]
theorem tn_ng (a b c : V2) : tn (ng a) (ng b) (ng c) = tn a b c := by unfold tn ng; grind
/-- edges of a stack -/
def Edge (b a : V2) (T : List V2) : Prop := ∃ u s, T = u ++ b :: a :: s
theorem Edge.cons {b a c : V2} {T : List V2} (h : Edge b a T) : Edge b a (c :: T) := by
  obtain ⟨u, s, e⟩ := h
  exact ⟨c :: u, s, by rw [e]; rfl⟩
theorem Edge.cut {b a c : V2} {T : List V2} (h : Edge b a (c :: T)) : (∃ s, c = b ∧ T = a :: s) ∨ Edge b a T := by
  obtain ⟨u, s, e⟩ := h
  match u, e with
  | [], e => simp at e; exact .inl ⟨s, e.1, e.2⟩
  | d :: u, e => simp at e; exact .inr ⟨u, s, e.2⟩
theorem Edge.lt {b a : V2} {T : List V2} (h : Edge b a T) (hd : desc T) : lt2 a b := by
  obtain ⟨u, s, e⟩ := h
  subst e
  exact desc_hd (List.pairwise_append.1 hd).2.1 (by simp)
theorem Edge.ng {b a : V2} {T : List V2} (h : Edge b a T) : Edge (ng b) (ng a) (T.map ng) := by
  obtain ⟨u, s, e⟩ := h
  exact ⟨u.map Go.Proofs.Ytdcceppednngjaa.ng, s.map Go.Proofs.Ytdcceppednngjaa.ng, by simp [e]⟩
theorem Edge.abv {b a x : V2} {T : List V2} (h : Edge b a T) (k : abv x T) : 0 ≤ tn a b x := by
  induction T with
  | nil => obtain ⟨u, s, e⟩ := h; simp at e
  | cons c T ih =>
    rcases h.cut with ⟨s, rfl, rfl⟩ | h
    · exact k.1
    · exact ih h (abv_tail k)
/-- one half of a hull of the points X: from s to t, last corner first -/
structure Half (X T : List V2) (s t : V2) : Prop where
  d : desc T
  c : conv T
  ab : ∀ x ∈ X, abv x T
  sub : ∀ x ∈ T, x ∈ X
  hd : T.head? = some t
  lo : T.getLast? = some s
  two : 2 ≤ T.length
theorem Half.cons {X T : List V2} {s t : V2} (h : Half X T s t) : ∃ r, T = t :: r ∧ r ≠ [] ∧ r.getLast? = some s := by
  match T, h.hd, h.two, h.lo with
  | b :: a :: r, e, _, l =>
    simp at e; subst e
    exact ⟨a :: r, rfl, by simp, by simpa [List.getLast?_cons_cons] using l⟩
/-- the lower half A and the upper half B (its first corner last) of a hull of X, from s to t -/
structure Hull (X A B : List V2) (s t : V2) : Prop where
  lo : Half X A s t
  hi : Half (X.map ng) (B.map ng) (ng t) (ng s)
theorem Hull.bcons {X A B : List V2} {s t : V2} (h : Hull X A B s t) : ∃ r, B = s :: r ∧ r ≠ [] ∧ r.getLast? = some t := by
  have h1 := h.hi.hd
  have h2 := h.hi.lo
  have h3 := h.hi.two
  match B, h1, h2, h3 with
  | b :: a :: r, h1, h2, _ =>
    simp at h1
    have := ng_inj h1
    subst this
    refine ⟨a :: r, rfl, by simp, ?_⟩
    have e : ((b :: a :: r).map ng).getLast? = ((a :: r).getLast?).map ng := by rw [List.map_cons, List.map_cons, List.getLast?_cons_cons, ← List.map_cons, List.getLast?_map]
    rw [e] at h2
    match h4 : (a :: r).getLast?, h2 with
    | some q, h2 => simp at h2; rw [ng_inj h2]
def outL (A B : List V2) : List V2 := A.tail.reverse ++ B.tail.reverse
theorem edge_rev {T : List V2} {i : Nat} {c d : V2} (h : T.reverse[i]? = some c) (k : T.reverse[i + 1]? = some d) : Edge d c T := by
  have hl : i + 1 < T.length := by have := (List.getElem?_eq_some_iff.1 k).1; simpa using this
  rw [List.getElem?_reverse (by omega)] at h k
  have e : T.length - 1 - i = (T.length - 1 - (i + 1)) + 1 := by omega
  rw [e] at h
  generalize T.length - 1 - (i + 1) = m at h k
  obtain ⟨hm, h⟩ := List.getElem?_eq_some_iff.1 h
  obtain ⟨hm', k⟩ := List.getElem?_eq_some_iff.1 k
  refine ⟨T.take m, T.drop (m + 2), ?_⟩
  conv => lhs; rw [← List.take_append_drop m T, List.drop_eq_getElem_cons hm', List.drop_eq_getElem_cons hm]
  rw [h, k]
theorem Hull.edges {X A B : List V2} {s t : V2} (h : Hull X A B s t) {i : Nat} {c d : V2} (hc : (outL A B)[i]? = some c) (hd : (outL A B)[(i + 1) % (outL A B).length]? = some d) : Edge d c A ∨ Edge d c B := by
  obtain ⟨a, rfl, ha, la⟩ := h.lo.cons
  obtain ⟨b, rfl, hb, lb⟩ := h.bcons
  have la0 : 0 < a.length := List.length_pos_iff.2 ha
  have lb0 : 0 < b.length := List.length_pos_iff.2 hb
  have e : outL (t :: a) (s :: b) = a.reverse ++ b.reverse := rfl
  rw [e] at hc hd
  have hi := (List.getElem?_eq_some_iff.1 hc).1
  simp only [List.length_append, List.length_reverse] at hi hd
  have fa : a.reverse[0]? = some s := by rw [List.getElem?_reverse (by omega), ← la, List.getLast?_eq_getElem?]; simp
  have fb : b.reverse[0]? = some t := by rw [List.getElem?_reverse (by omega), ← lb, List.getLast?_eq_getElem?]; simp
  by_cases hia : i < a.length
  · left
    refine edge_rev (T := t :: a) (i := i) ?_ ?_
    · rw [List.getElem?_append_left (by simpa using hia)] at hc
      rw [List.reverse_cons, List.getElem?_append_left (by simpa using hia)]; exact hc
    · rw [Nat.mod_eq_of_lt (by omega)] at hd
      rw [List.reverse_cons]
      by_cases h2 : i + 1 < a.length
      · rw [List.getElem?_append_left (by simpa using h2)] at hd ⊢; exact hd
      · have e2 : i + 1 = a.length := by omega
        rw [List.getElem?_append_right (by simp; omega)] at hd ⊢
        rw [List.length_reverse, e2, Nat.sub_self] at hd ⊢
        rw [fb] at hd
        exact hd
  · right
    refine edge_rev (T := s :: b) (i := i - a.length) ?_ ?_
    · rw [List.getElem?_append_right (by simpa using hia), List.length_reverse] at hc
      rw [List.reverse_cons, List.getElem?_append_left (by simp; omega)]; exact hc
    · rw [List.reverse_cons]
      by_cases h2 : i + 1 < a.length + b.length
      · rw [Nat.mod_eq_of_lt h2, List.getElem?_append_right (by simp; omega), List.length_reverse] at hd
        rw [List.getElem?_append_left (by simp; omega), ← hd]
        congr 1; omega
      · have e2 : i + 1 = a.length + b.length := by omega
        rw [e2, Nat.mod_self, List.getElem?_append_left (by simpa using la0), fa] at hd
        rw [List.getElem?_append_right (by simp; omega), List.length_reverse]
        have e3 : i - a.length + 1 - b.length = 0 := by omega
        rw [e3]; exact hd
theorem Hull.left {X A B : List V2} {s t : V2} (h : Hull X A B s t) {c d : V2} (he : Edge d c A ∨ Edge d c B) : ∀ x ∈ X, 0 ≤ tn c d x := by
  intro x hx
  rcases he with he | he
  · exact he.abv (h.lo.ab x hx)
  · have := he.ng.abv (h.hi.ab (ng x) (List.mem_map_of_mem hx))
    rwa [tn_ng] at this
end Go.Proofs.Ytdcceppednngjaa
