/-
  The plane over fractions: segments, convex polygons, where a segment leaves one; squares of distances.
-/
import Derived.IntWalk
namespace Go.Proofs.YtcpncoonbdbkmaaGreat
set_option linter.unusedVariables false

abbrev RP := Rat × Rat
def crsQ (a b c : RP) : Rat := (b.1 - a.1) * (c.2 - a.2) - (b.2 - a.2) * (c.1 - a.1)
/-- the point at t of the segment from a to b -/
def atQ (a b : RP) (t : Rat) : RP := (a.1 + t * (b.1 - a.1), a.2 + t * (b.2 - a.2))
def OnQ (a b x : RP) : Prop := ∃ t : Rat, 0 ≤ t ∧ t ≤ 1 ∧ x = atQ a b t
theorem OnQ.mk {a b x : RP} {t : Rat} (h0 : 0 ≤ t) (h1 : t ≤ 1) (hx : x.1 = a.1 + t * (b.1 - a.1)) (hy : x.2 = a.2 + t * (b.2 - a.2)) : OnQ a b x := ⟨t, h0, h1, Prod.ext hx hy⟩
theorem qmul_nn {a b : Rat} (h : 0 ≤ a) (k : 0 ≤ b) : 0 ≤ a * b := Rat.mul_nonneg h k
theorem qsq (a : Rat) : 0 ≤ a * a := by
  rcases (show 0 ≤ a ∨ a ≤ 0 by grind) with h | h
  · exact qmul_nn h h
  · have := qmul_nn (show 0 ≤ -a by grind) (show 0 ≤ -a by grind); grind
theorem OnQ.left (a b : RP) : OnQ a b a := OnQ.mk (t := 0) (by grind) (by grind) (by grind) (by grind)
theorem OnQ.right (a b : RP) : OnQ a b b := OnQ.mk (t := 1) (by grind) (by grind) (by grind) (by grind)
theorem OnQ.symm {a b x : RP} (h : OnQ a b x) : OnQ b a x := by
  obtain ⟨t, h0, h1, rfl⟩ := h
  exact OnQ.mk (t := 1 - t) (by grind) (by grind) (by simp only [atQ]; grind) (by simp only [atQ]; grind)
/-! ### convex polygons: n corners f 0 .. f (n - 1), counterclockwise -/
def nxQ (n i : Nat) : Nat := (i + 1) % n
def ConvQ (n : Nat) (f : Nat → RP) : Prop := 3 ≤ n ∧ ∀ i j, i < n → j < n → j ≠ i → j ≠ nxQ n i → 0 < crsQ (f i) (f (nxQ n i)) (f j)
def InsQ (n : Nat) (f : Nat → RP) (x : RP) : Prop := ∀ i, i < n → 0 ≤ crsQ (f i) (f (nxQ n i)) x
theorem crsQ_at (a b p q : RP) (t : Rat) : crsQ a b (atQ p q t) = (1 - t) * crsQ a b p + t * crsQ a b q := by simp only [crsQ, atQ]; grind
theorem crsQ_l (a b : RP) : crsQ a b a = 0 := by unfold crsQ; grind
theorem crsQ_r (a b : RP) : crsQ a b b = 0 := by unfold crsQ; grind
theorem nxQ_lt {n i : Nat} (h : i < n) : nxQ n i < n := Nat.mod_lt _ (by omega)
theorem ConvQ.on {n : Nat} {f : Nat → RP} (h : ConvQ n f) {i : Nat} (hi : i < n) {x : RP} (hx : OnQ (f i) (f (nxQ n i)) x) : InsQ n f x := by
  obtain ⟨t, t0, t1, rfl⟩ := hx
  intro j hj
  rw [crsQ_at]
  have hc : ∀ m, m < n → 0 ≤ crsQ (f j) (f (nxQ n j)) (f m) := by
    intro m hm
    by_cases e1 : m = j
    · rw [e1, crsQ_l]; exact Rat.le_refl
    · by_cases e2 : m = nxQ n j
      · rw [e2, crsQ_r]; exact Rat.le_refl
      · exact Rat.le_of_lt (h.2 j m hj hm e1 e2)
  have m1 := qmul_nn (show 0 ≤ 1 - t by grind) (hc i hi)
  have m2 := qmul_nn t0 (hc _ (nxQ_lt hi))
  grind
theorem InsQ.on {n : Nat} {f : Nat → RP} {p q x : RP} (hp : InsQ n f p) (hq : InsQ n f q) (hx : OnQ p q x) : InsQ n f x := by
  obtain ⟨t, t0, t1, rfl⟩ := hx
  intro j hj
  rw [crsQ_at]
  have m1 := qmul_nn (show 0 ≤ 1 - t by grind) (hp j hj)
  have m2 := qmul_nn t0 (hq j hj)
  grind
/-! ### distances -/
end Go.Proofs.YtcpncoonbdbkmaaGreat
