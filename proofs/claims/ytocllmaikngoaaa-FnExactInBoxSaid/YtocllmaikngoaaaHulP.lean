/-
  Convex hulls in the plane of whole numbers, by chains of corners: a chain of ascending points has all of them on its left, its corners turn left, no other path along the points has a greater sum of products; a hull's corners, the hull of a hull, areas. Nothing of the program stands here.
-/
import Derived.Test.YtocllmaikngoaaaRows
namespace Go.Proofs.Ytocllmaikngoaaa
abbrev V2 := Int × Int
/-- twice the area of a triangle -/
def tn (a b c : V2) : Int := (b.1 - a.1) * (c.2 - a.2) - (b.2 - a.2) * (c.1 - a.1)
def lt2 (a b : V2) : Prop := a.1 < b.1 ∨ a.1 = b.1 ∧ a.2 < b.2
instance (a b : V2) : Decidable (lt2 a b) := inferInstanceAs (Decidable (_ ∨ _))
/-- a chain is a stack: the last corner first -/
def push : List V2 → V2 → List V2
  | b :: a :: s, p => if tn a b p ≤ 0 then push (a :: s) p else p :: b :: a :: s
  | [b], p => [p, b]
  | [], p => [p]
def chain (xs : List V2) : List V2 := xs.foldl push []
def conv : List V2 → Prop
  | c :: b :: a :: s => 0 < tn a b c ∧ conv (b :: a :: s)
  | _ => True
def abv (x : V2) : List V2 → Prop
  | b :: a :: s => 0 ≤ tn a b x ∧ abv x (a :: s)
  | _ => True
def desc (T : List V2) : Prop := T.Pairwise fun x y => lt2 y x
theorem abv_tail {x b : V2} {T : List V2} (h : abv x (b :: T)) : abv x T := by
  match T, h with
  | [], _ => trivial
  | _ :: _, h => exact h.2
theorem desc_tail {b : V2} {T : List V2} (h : desc (b :: T)) : desc T := (List.pairwise_cons.1 h).2
theorem desc_hd {b : V2} {T : List V2} (h : desc (b :: T)) {x : V2} (hx : x ∈ T) : lt2 x b := (List.pairwise_cons.1 h).1 x hx
/-- a path: a stack of points of X that begins with s -/
structure Path (s : V2) (X G : List V2) : Prop where
  d : desc G
  sub : ∀ x ∈ G, x ∈ X
  lo : G.getLast? = some s
theorem Path.tail {s g : V2} {X G : List V2} (h : Path s X (g :: G)) (hG : G ≠ []) : Path s X G := by
  match G, hG with
  | a :: r, _ => exact ⟨desc_tail h.d, fun x hx => h.sub x (List.mem_cons_of_mem _ hx), by simpa [List.getLast?_cons_cons] using h.lo⟩
def ng (v : V2) : V2 := (-v.1, -v.2)
theorem tn_ng (a b c : V2) : tn (ng a) (ng b) (ng c) = tn a b c := by unfold tn ng; grind
/-- edges of a stack -/
def Edge (b a : V2) (T : List V2) : Prop := ∃ u s, T = u ++ b :: a :: s
theorem Edge.cons {b a c : V2} {T : List V2} (h : Edge b a T) : Edge b a (c :: T) := by
  obtain ⟨u, s, e⟩ := h
  exact ⟨c :: u, s, by rw [e]; rfl⟩
theorem Edge.cut {b a c : V2} {T : List V2} (h : Edge b a (c :: T)) : (∃ s, c = b ∧ T = a :: s) ∨ Edge b a T := by
  obtain ⟨u, s, e⟩ := h
  match u, e with
  | [], e => simp at e; exact .inl ⟨s, e.1, e.2⟩
  | d :: u, e => simp at e; exact .inr ⟨u, s, e.2⟩
theorem Edge.lt {b a : V2} {T : List V2} (h : Edge b a T) (hd : desc T) : lt2 a b := by
  obtain ⟨u, s, e⟩ := h
  subst e
  exact desc_hd (List.pairwise_append.1 hd).2.1 (by simp)
theorem Edge.ng {b a : V2} {T : List V2} (h : Edge b a T) : Edge (ng b) (ng a) (T.map ng) := by
  obtain ⟨u, s, e⟩ := h
  exact ⟨u.map Go.Proofs.Ytocllmaikngoaaa.ng, s.map Go.Proofs.Ytocllmaikngoaaa.ng, by simp [e]⟩
theorem Edge.abv {b a x : V2} {T : List V2} (h : Edge b a T) (k : abv x T) : 0 ≤ tn a b x := by
  induction T with
  | nil => obtain ⟨u, s, e⟩ := h; simp at e
  | cons c T ih =>
    rcases h.cut with ⟨s, rfl, rfl⟩ | h
    · exact k.1
    · exact ih h (abv_tail k)
/-- one half of a hull of the points X: from s to t, last corner first -/
structure Half (X T : List V2) (s t : V2) : Prop where
  d : desc T
  c : conv T
  ab : ∀ x ∈ X, abv x T
  sub : ∀ x ∈ T, x ∈ X
  hd : T.head? = some t
  lo : T.getLast? = some s
  two : 2 ≤ T.length
theorem Half.cons {X T : List V2} {s t : V2} (h : Half X T s t) : ∃ r, T = t :: r ∧ r ≠ [] ∧ r.getLast? = some s := by
  match T, h.hd, h.two, h.lo with
  | b :: a :: r, e, _, l =>
    simp at e; subst e
    exact ⟨a :: r, rfl, by simp, by simpa [List.getLast?_cons_cons] using l⟩
/-- the lower half A and the upper half B (its first corner last) of a hull of X, from s to t -/
structure Hull (X A B : List V2) (s t : V2) : Prop where
  lo : Half X A s t
  hi : Half (X.map ng) (B.map ng) (ng t) (ng s)
def outL (A B : List V2) : List V2 := A.tail.reverse ++ B.tail.reverse
theorem Hull.left {X A B : List V2} {s t : V2} (h : Hull X A B s t) {c d : V2} (he : Edge d c A ∨ Edge d c B) : ∀ x ∈ X, 0 ≤ tn c d x := by
  intro x hx
  rcases he with he | he
  · exact he.abv (h.lo.ab x hx)
  · have := he.ng.abv (h.hi.ab (ng x) (List.mem_map_of_mem hx))
    rwa [tn_ng] at this
def hiC (xs : List V2) : List V2 := chain xs.reverse
end Go.Proofs.Ytocllmaikngoaaa
