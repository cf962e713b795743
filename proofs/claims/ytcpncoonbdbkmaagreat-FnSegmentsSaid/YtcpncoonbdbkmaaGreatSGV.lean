/-
  The texts SegG, SegV, put together; each has its own heading below. No condition of ours.
-/
import Derived.IntWalk
import Derived.Test.YtcpncoonbdbkmaaGreatSV
import Derived.Test.YtcpncoonbdbkmaaGreatSegP
/-
  The plane over fractions: segments, convex polygons, where a segment leaves one; squares of distances.
-/

namespace Go.Proofs.YtcpncoonbdbkmaaGreat
set_option linter.unusedVariables false

abbrev RP := Rat × Rat
def crsQ (a b c : RP) : Rat := (b.1 - a.1) * (c.2 - a.2) - (b.2 - a.2) * (c.1 - a.1)
def rngQ (a b c d : Rat) : Prop := (a ≤ c ∨ a ≤ d ∨ b ≤ c ∨ b ≤ d) ∧ (c ≤ a ∨ c ≤ b ∨ d ≤ a ∨ d ≤ b)
def oppQ (x y : Rat) : Prop := ¬ (0 < x ∧ 0 < y) ∧ ¬ (x < 0 ∧ y < 0)
def MeetQ (a b c d : RP) : Prop := rngQ a.1 b.1 c.1 d.1 ∧ rngQ a.2 b.2 c.2 d.2 ∧ oppQ (crsQ a b c) (crsQ a b d) ∧ oppQ (crsQ c d a) (crsQ c d b)
/-- the point at t of the segment from a to b -/
def atQ (a b : RP) (t : Rat) : RP := (a.1 + t * (b.1 - a.1), a.2 + t * (b.2 - a.2))
def OnQ (a b x : RP) : Prop := ∃ t : Rat, 0 ≤ t ∧ t ≤ 1 ∧ x = atQ a b t
theorem OnQ.mk {a b x : RP} {t : Rat} (h0 : 0 ≤ t) (h1 : t ≤ 1) (hx : x.1 = a.1 + t * (b.1 - a.1)) (hy : x.2 = a.2 + t * (b.2 - a.2)) : OnQ a b x := ⟨t, h0, h1, Prod.ext hx hy⟩
theorem qmul_nn {a b : Rat} (h : 0 ≤ a) (k : 0 ≤ b) : 0 ≤ a * b := Rat.mul_nonneg h k
theorem qdiv_nn {a b : Rat} (h : 0 ≤ a) (k : 0 < b) : 0 ≤ a / b := by
  rcases (show 0 ≤ a / b ∨ a / b ≤ 0 by grind) with h2 | h2
  · exact h2
  · have e : a / b * b = a := by grind
    have := qmul_nn (show 0 ≤ -(a / b) by grind) (Rat.le_of_lt k)
    have h3 : a = 0 := by grind
    have h4 : a / b = 0 := by rw [h3]; grind
    rw [h4]; exact Rat.le_refl
theorem qdiv_le {a b : Rat} (h : a ≤ b) (k : 0 < b) : a / b ≤ 1 := by
  have := qdiv_nn (show 0 ≤ b - a by grind) k
  have e : (b - a) / b = 1 - a / b := by grind
  grind
/-- a quotient that lies between 0 and 1 -/
theorem fracQ {s d : Rat} (hd : d ≠ 0) (h : (0 ≤ s ∧ s ≤ d) ∨ (d ≤ s ∧ s ≤ 0)) : ∃ t : Rat, 0 ≤ t ∧ t ≤ 1 ∧ t * d = s := by
  refine ⟨s / d, ?_, ?_, by grind⟩
  · rcases h with h | h
    · exact qdiv_nn h.1 (by grind)
    · have := qdiv_nn (show 0 ≤ -s by grind) (show 0 < -d by grind)
      have e : -s / -d = s / d := by grind
      grind
  · rcases h with h | h
    · exact qdiv_le h.2 (by grind)
    · have := qdiv_le (show -s ≤ -d by grind) (show 0 < -d by grind)
      have e : -s / -d = s / d := by grind
      grind
theorem opp_between {s d : Rat} (h : oppQ s (s - d)) : (0 ≤ s ∧ s ≤ d) ∨ (d ≤ s ∧ s ≤ 0) := by unfold oppQ at h; grind
/-- a coordinate in the range of another segment gives a common point where all is on one line -/
theorem par_xQ {p q a : RP} (hu : q.1 - p.1 ≠ 0) (hc : crsQ p q a = 0) (hr : (p.1 ≤ a.1 ∧ a.1 ≤ q.1) ∨ (q.1 ≤ a.1 ∧ a.1 ≤ p.1)) : OnQ p q a := by
  obtain ⟨t, h0, h1, ht⟩ := fracQ (s := a.1 - p.1) hu (by grind)
  refine OnQ.mk h0 h1 (by grind) ?_
  unfold crsQ at hc
  have : (q.1 - p.1) * (a.2 - (p.2 + t * (q.2 - p.2))) = 0 := by grind
  grind
theorem par_yQ {p q a : RP} (hu : q.2 - p.2 ≠ 0) (hc : crsQ p q a = 0) (hr : (p.2 ≤ a.2 ∧ a.2 ≤ q.2) ∨ (q.2 ≤ a.2 ∧ a.2 ≤ p.2)) : OnQ p q a := by
  obtain ⟨t, h0, h1, ht⟩ := fracQ (s := a.2 - p.2) hu (by grind)
  refine OnQ.mk h0 h1 ?_ (by grind)
  unfold crsQ at hc
  have : (q.2 - p.2) * (a.1 - (p.1 + t * (q.1 - p.1))) = 0 := by grind
  grind
theorem OnQ.left (a b : RP) : OnQ a b a := OnQ.mk (t := 0) (by grind) (by grind) (by grind) (by grind)
theorem OnQ.right (a b : RP) : OnQ a b b := OnQ.mk (t := 1) (by grind) (by grind) (by grind) (by grind)
theorem OnQ.symm {a b x : RP} (h : OnQ a b x) : OnQ b a x := by
  obtain ⟨t, h0, h1, rfl⟩ := h
  exact OnQ.mk (t := 1 - t) (by grind) (by grind) (by simp only [atQ]; grind) (by simp only [atQ]; grind)
def ComQ (a b c d : RP) : Prop := ∃ x, OnQ a b x ∧ OnQ c d x
theorem meet_com {p q a b : RP} (h : MeetQ p q a b) : ComQ p q a b := by
  obtain ⟨hx, hy, h1, h2⟩ := h
  obtain ⟨D, hD⟩ : ∃ D, D = (q.1 - p.1) * (b.2 - a.2) - (q.2 - p.2) * (b.1 - a.1) := ⟨_, rfl⟩
  have e1 : crsQ p q b = crsQ p q a + D := by unfold crsQ; grind
  have e2 : crsQ a b q = crsQ a b p - D := by unfold crsQ; grind
  by_cases h0 : D = 0
  · have z1 : crsQ p q a = 0 := by unfold oppQ at h1; grind
    have z2 : crsQ a b p = 0 := by unfold oppQ at h2; grind
    have z3 : crsQ p q b = 0 := by grind
    have z4 : crsQ a b q = 0 := by grind
    by_cases ux : q.1 - p.1 = 0
    · by_cases uy : q.2 - p.2 = 0
      · by_cases vx : b.1 - a.1 = 0
        · by_cases vy : b.2 - a.2 = 0
          · exact ⟨p, OnQ.left _ _, OnQ.mk (t := 0) (by grind) (by grind) (by unfold rngQ at hx; grind) (by unfold rngQ at hy; grind)⟩
          · exact ⟨p, OnQ.left _ _, par_yQ vy z2 (by unfold rngQ at hy; grind)⟩
        · exact ⟨p, OnQ.left _ _, par_xQ vx z2 (by unfold rngQ at hx; grind)⟩
      · by_cases r1 : (p.2 ≤ a.2 ∧ a.2 ≤ q.2) ∨ (q.2 ≤ a.2 ∧ a.2 ≤ p.2)
        · exact ⟨a, par_yQ uy z1 r1, OnQ.left _ _⟩
        · by_cases r2 : (p.2 ≤ b.2 ∧ b.2 ≤ q.2) ∨ (q.2 ≤ b.2 ∧ b.2 ≤ p.2)
          · exact ⟨b, par_yQ uy z3 r2, OnQ.right _ _⟩
          · exact ⟨p, OnQ.left _ _, par_yQ (by unfold rngQ at hy; grind) z2 (by unfold rngQ at hy; grind)⟩
    · by_cases r1 : (p.1 ≤ a.1 ∧ a.1 ≤ q.1) ∨ (q.1 ≤ a.1 ∧ a.1 ≤ p.1)
      · exact ⟨a, par_xQ ux z1 r1, OnQ.left _ _⟩
      · by_cases r2 : (p.1 ≤ b.1 ∧ b.1 ≤ q.1) ∨ (q.1 ≤ b.1 ∧ b.1 ≤ p.1)
        · exact ⟨b, par_xQ ux z3 r2, OnQ.right _ _⟩
        · exact ⟨p, OnQ.left _ _, par_xQ (by unfold rngQ at hx; grind) z2 (by unfold rngQ at hx; grind)⟩
  · obtain ⟨s, s0, s1, hs⟩ := fracQ h0 (opp_between (s := crsQ a b p) (by rw [← e2]; exact h2))
    obtain ⟨t, t0, t1, ht⟩ := fracQ h0 (opp_between (s := -crsQ p q a) (by unfold oppQ at h1 ⊢; grind))
    refine ⟨atQ p q s, ⟨s, s0, s1, rfl⟩, ⟨t, t0, t1, ?_⟩⟩
    unfold crsQ at hs ht
    refine Prod.ext ?_ ?_
    · show p.1 + s * (q.1 - p.1) = a.1 + t * (b.1 - a.1)
      have : D * (p.1 + s * (q.1 - p.1)) = D * (a.1 + t * (b.1 - a.1)) := by grind
      grind
    · show p.2 + s * (q.2 - p.2) = a.2 + t * (b.2 - a.2)
      have : D * (p.2 + s * (q.2 - p.2)) = D * (a.2 + t * (b.2 - a.2)) := by grind
      grind
theorem com_meet {p q a b : RP} (h : ComQ p q a b) : MeetQ p q a b := by
  obtain ⟨x, ⟨s, s0, s1, rfl⟩, ⟨t, t0, t1, hx⟩⟩ := h
  have e1 := congrArg Prod.fst hx
  have e2 := congrArg Prod.snd hx
  simp only [atQ] at e1 e2
  have keyQ : ∀ u v : Rat, ∀ r : Rat, 0 ≤ r → r ≤ 1 → (u ≤ u + r * (v - u) ∨ v ≤ u + r * (v - u)) ∧ (u + r * (v - u) ≤ u ∨ u + r * (v - u) ≤ v) := by
    intro u v r h0 h1
    rcases (show u ≤ v ∨ v ≤ u by grind) with h | h
    · have m1 := qmul_nn h0 (show 0 ≤ v - u by grind)
      have m2 := qmul_nn (show 0 ≤ 1 - r by grind) (show 0 ≤ v - u by grind)
      exact ⟨.inl (by grind), .inr (by grind)⟩
    · have m1 := qmul_nn h0 (show 0 ≤ u - v by grind)
      have m2 := qmul_nn (show 0 ≤ 1 - r by grind) (show 0 ≤ u - v by grind)
      exact ⟨.inr (by grind), .inl (by grind)⟩
  have k1 := keyQ p.1 q.1 s s0 s1
  have k2 := keyQ a.1 b.1 t t0 t1
  have k3 := keyQ p.2 q.2 s s0 s1
  have k4 := keyQ a.2 b.2 t t0 t1
  rw [e1] at k1
  rw [e2] at k3
  obtain ⟨D, hD⟩ : ∃ D, D = (q.1 - p.1) * (b.2 - a.2) - (q.2 - p.2) * (b.1 - a.1) := ⟨_, rfl⟩
  have f1 : crsQ p q b = crsQ p q a + D := by unfold crsQ; grind
  have f2 : crsQ a b q = crsQ a b p - D := by unfold crsQ; grind
  have g1 : crsQ p q a = -(t * D) := by unfold crsQ; grind
  have g2 : crsQ a b p = s * D := by unfold crsQ; grind
  refine ⟨by unfold rngQ; grind, by unfold rngQ; grind, ?_, ?_⟩
  · rw [f1, g1]
    unfold oppQ
    rcases (show 0 ≤ D ∨ D ≤ 0 by grind) with h | h
    · have m1 := qmul_nn t0 h
      have m2 := qmul_nn (show 0 ≤ 1 - t by grind) h
      grind
    · have m1 := qmul_nn t0 (show 0 ≤ -D by grind)
      have m2 := qmul_nn (show 0 ≤ 1 - t by grind) (show 0 ≤ -D by grind)
      grind
  · rw [f2, g2]
    unfold oppQ
    rcases (show 0 ≤ D ∨ D ≤ 0 by grind) with h | h
    · have m1 := qmul_nn s0 h
      have m2 := qmul_nn (show 0 ≤ 1 - s by grind) h
      grind
    · have m1 := qmul_nn s0 (show 0 ≤ -D by grind)
      have m2 := qmul_nn (show 0 ≤ 1 - s by grind) (show 0 ≤ -D by grind)
      grind
theorem meet_iff {p q a b : RP} : MeetQ p q a b ↔ ComQ p q a b := ⟨meet_com, com_meet⟩
theorem ComQ.swap {p q a b : RP} (h : ComQ p q a b) : ComQ a b p q := by obtain ⟨x, h1, h2⟩ := h; exact ⟨x, h2, h1⟩
theorem ComQ.flip {p q a b : RP} (h : ComQ p q a b) : ComQ q p a b := by obtain ⟨x, h1, h2⟩ := h; exact ⟨x, h1.symm, h2⟩
theorem meet_rev {p q r t : RP} : MeetQ p q r t ↔ MeetQ t r q p := by
  rw [meet_iff, meet_iff]
  exact ⟨fun h => h.swap.flip.swap.flip.swap, fun h => h.swap.flip.swap.flip.swap⟩
/-- the point in the middle -/
def midQ (p q : RP) : RP := ((p.1 + q.1) / 2, (p.2 + q.2) / 2)
theorem OnQ.sub {p q x y z : RP} (hx : OnQ p q x) (hy : OnQ p q y) (hz : OnQ x y z) : OnQ p q z := by
  obtain ⟨s, s0, s1, rfl⟩ := hx
  obtain ⟨t, t0, t1, rfl⟩ := hy
  obtain ⟨r, r0, r1, rfl⟩ := hz
  have m1 := qmul_nn r0 t0
  have m2 := qmul_nn (show 0 ≤ 1 - r by grind) s0
  have m3 := qmul_nn r0 (show 0 ≤ 1 - t by grind)
  have m4 := qmul_nn (show 0 ≤ 1 - r by grind) (show 0 ≤ 1 - s by grind)
  exact OnQ.mk (t := s + r * (t - s)) (by grind) (by grind) (by simp only [atQ]; grind) (by simp only [atQ]; grind)
theorem mid_onQ (p q : RP) : OnQ p q (midQ p q) := OnQ.mk (t := 1 / 2) (by grind) (by grind) (by simp only [midQ]; grind) (by simp only [midQ]; grind)
theorem meet_mid (p q r : RP) : MeetQ p q (midQ p q) r := com_meet ⟨_, mid_onQ p q, OnQ.left _ _⟩
theorem OnQ.halves {p q x : RP} (h : OnQ p q x) : OnQ p (midQ p q) x ∨ OnQ (midQ p q) q x := by
  obtain ⟨t, h0, h1, rfl⟩ := h
  by_cases ht : t ≤ 1 / 2
  · exact .inl (OnQ.mk (t := 2 * t) (by grind) (by grind) (by simp only [atQ, midQ]; grind) (by simp only [atQ, midQ]; grind))
  · exact .inr (OnQ.mk (t := 2 * t - 1) (by grind) (by grind) (by simp only [atQ, midQ]; grind) (by simp only [atQ, midQ]; grind))
/-! ### convex polygons: n corners f 0 .. f (n - 1), counterclockwise -/
def nxQ (n i : Nat) : Nat := (i + 1) % n
def ConvQ (n : Nat) (f : Nat → RP) : Prop := 3 ≤ n ∧ ∀ i j, i < n → j < n → j ≠ i → j ≠ nxQ n i → 0 < crsQ (f i) (f (nxQ n i)) (f j)
def InsQ (n : Nat) (f : Nat → RP) (x : RP) : Prop := ∀ i, i < n → 0 ≤ crsQ (f i) (f (nxQ n i)) x
theorem crsQ_at (a b p q : RP) (t : Rat) : crsQ a b (atQ p q t) = (1 - t) * crsQ a b p + t * crsQ a b q := by simp only [crsQ, atQ]; grind
theorem crsQ_l (a b : RP) : crsQ a b a = 0 := by unfold crsQ; grind
theorem crsQ_r (a b : RP) : crsQ a b b = 0 := by unfold crsQ; grind
theorem nxQ_lt {n i : Nat} (h : i < n) : nxQ n i < n := Nat.mod_lt _ (by omega)
theorem nxQ_of {n i : Nat} (h : i < n) : (nxQ n i = i + 1 ∧ i + 1 < n) ∨ (nxQ n i = 0 ∧ i + 1 = n) := by
  unfold nxQ
  by_cases hh : i + 1 < n
  · exact .inl ⟨Nat.mod_eq_of_lt hh, hh⟩
  · have e : i + 1 = n := by omega
    exact .inr ⟨by rw [e]; exact Nat.mod_self n, e⟩
/-- the corner before -/
theorem preQ_of {n i : Nat} (h : i < n) : ∃ k, k < n ∧ nxQ n k = i := by
  by_cases h0 : i = 0
  · exact ⟨n - 1, by omega, by unfold nxQ; rw [show n - 1 + 1 = n by omega, Nat.mod_self, h0]⟩
  · exact ⟨i - 1, by omega, by unfold nxQ; rw [show i - 1 + 1 = i by omega, Nat.mod_eq_of_lt h]⟩
theorem ConvQ.edge {n : Nat} {f : Nat → RP} (h : ConvQ n f) {x : RP} (hx : InsQ n f x) {i : Nat} (hi : i < n) (h0 : crsQ (f i) (f (nxQ n i)) x = 0) : OnQ (f i) (f (nxQ n i)) x := by
  obtain ⟨h3, hc⟩ := h
  obtain ⟨k, hk, hki⟩ := preQ_of hi
  have hj := nxQ_lt hi
  have hjj := nxQ_lt hj
  have n1 := nxQ_of hi
  have n2 := nxQ_of hj
  have n3 := nxQ_of hk
  have c1 := hc k (nxQ n i) hk hj (by omega) (by omega)
  have c2 := hc (nxQ n i) i hj hi (by omega) (by omega)
  have i1 := hx k hk
  have i2 := hx (nxQ n i) hj
  rw [hki] at c1 i1
  generalize f i = a at *
  generalize f (nxQ n i) = b at *
  generalize f k = z at *
  generalize f (nxQ n (nxQ n i)) = c at *
  clear hc
  have keyQ : ∀ τ : Rat, x.1 = a.1 + τ * (b.1 - a.1) → x.2 = a.2 + τ * (b.2 - a.2) → OnQ a b x := by
    intro τ e1 e2
    have ex : x = atQ a b τ := Prod.ext e1 e2
    rw [ex, crsQ_at, crsQ_r] at i1
    rw [ex, crsQ_at, crsQ_l] at i2
    refine ⟨τ, ?_, ?_, ex⟩
    · rcases (show 0 ≤ τ ∨ τ < 0 by grind) with h | h
      · exact h
      · have := Rat.mul_pos (show 0 < -τ by grind) c1; grind
    · rcases (show τ ≤ 1 ∨ 1 < τ by grind) with h | h
      · exact h
      · have := Rat.mul_pos (show 0 < τ - 1 by grind) c2; grind
  unfold crsQ at h0 c1
  by_cases vx : b.1 - a.1 = 0
  · have vy : b.2 - a.2 ≠ 0 := by intro vy; grind
    have e : (x.2 - a.2) / (b.2 - a.2) * (b.2 - a.2) = x.2 - a.2 := by grind
    refine keyQ ((x.2 - a.2) / (b.2 - a.2)) ?_ (by grind)
    have : (b.2 - a.2) * (x.1 - a.1) = 0 := by grind
    grind
  · have e : (x.1 - a.1) / (b.1 - a.1) * (b.1 - a.1) = x.1 - a.1 := by grind
    refine keyQ ((x.1 - a.1) / (b.1 - a.1)) (by grind) ?_
    generalize (x.1 - a.1) / (b.1 - a.1) = τ at *
    have : (b.1 - a.1) * (x.2 - (a.2 + τ * (b.2 - a.2))) = 0 := by grind
    grind
theorem ConvQ.on {n : Nat} {f : Nat → RP} (h : ConvQ n f) {i : Nat} (hi : i < n) {x : RP} (hx : OnQ (f i) (f (nxQ n i)) x) : InsQ n f x := by
  obtain ⟨t, t0, t1, rfl⟩ := hx
  intro j hj
  rw [crsQ_at]
  have hc : ∀ m, m < n → 0 ≤ crsQ (f j) (f (nxQ n j)) (f m) := by
    intro m hm
    by_cases e1 : m = j
    · rw [e1, crsQ_l]; exact Rat.le_refl
    · by_cases e2 : m = nxQ n j
      · rw [e2, crsQ_r]; exact Rat.le_refl
      · exact Rat.le_of_lt (h.2 j m hj hm e1 e2)
  have m1 := qmul_nn (show 0 ≤ 1 - t by grind) (hc i hi)
  have m2 := qmul_nn t0 (hc _ (nxQ_lt hi))
  grind
theorem InsQ.on {n : Nat} {f : Nat → RP} {p q x : RP} (hp : InsQ n f p) (hq : InsQ n f q) (hx : OnQ p q x) : InsQ n f x := by
  obtain ⟨t, t0, t1, rfl⟩ := hx
  intro j hj
  rw [crsQ_at]
  have m1 := qmul_nn (show 0 ≤ 1 - t by grind) (hp j hj)
  have m2 := qmul_nn t0 (hq j hj)
  grind
/-- who leaves the polygon meets an edge -/
theorem ConvQ.leave {n : Nat} {f : Nat → RP} (h : ConvQ n f) {p q : RP} (hp : InsQ n f p) (hq : ¬ InsQ n f q) : ∃ i, i < n ∧ ComQ p q (f i) (f (nxQ n i)) := by
  have keyQ : ∀ k, k ≤ n → ∃ t : Rat, 0 ≤ t ∧ t ≤ 1 ∧ (∀ j, j < k → 0 ≤ crsQ (f j) (f (nxQ n j)) (atQ p q t)) ∧ (t = 1 ∨ ∃ j, j < k ∧ crsQ (f j) (f (nxQ n j)) (atQ p q t) = 0) := by
    intro k
    induction k with
    | zero => intro _; exact ⟨1, by grind, by grind, fun j hj => by omega, .inl rfl⟩
    | succ k ih =>
      intro hk
      obtain ⟨t, t0, t1, ha, hb⟩ := ih (by omega)
      by_cases hs : 0 ≤ crsQ (f k) (f (nxQ n k)) (atQ p q t)
      · refine ⟨t, t0, t1, fun j hj => ?_, ?_⟩
        · by_cases e : j = k
          · rw [e]; exact hs
          · exact ha j (by omega)
        · rcases hb with hb | ⟨j, hj, e⟩
          · exact .inl hb
          · exact .inr ⟨j, by omega, e⟩
      · have hpk := hp k (by omega)
        rw [crsQ_at] at hs
        obtain ⟨r, r0, r1, hr⟩ := fracQ (s := crsQ (f k) (f (nxQ n k)) p) (d := crsQ (f k) (f (nxQ n k)) p - ((1 - t) * crsQ (f k) (f (nxQ n k)) p + t * crsQ (f k) (f (nxQ n k)) q)) (by grind) (by grind)
        have m0 := qmul_nn r0 t0
        have m1 := qmul_nn r0 (show 0 ≤ 1 - t by grind)
        have hz : crsQ (f k) (f (nxQ n k)) (atQ p q (r * t)) = 0 := by rw [crsQ_at]; grind
        refine ⟨r * t, m0, by grind, fun j hj => ?_, .inr ⟨k, by omega, hz⟩⟩
        by_cases e : j = k
        · rw [e, hz]; exact Rat.le_refl
        · have a1 := ha j (by omega)
          have a2 := hp j (by omega)
          rw [crsQ_at] at a1 ⊢
          have b1 := qmul_nn r0 a1
          have b2 := qmul_nn (show 0 ≤ 1 - r by grind) a2
          grind
  obtain ⟨t, t0, t1, ha, hb⟩ := keyQ n (Nat.le_refl _)
  rcases hb with rfl | ⟨j, hj, e⟩
  · exfalso
    apply hq
    have e : atQ p q 1 = q := Prod.ext (by simp only [atQ]; grind) (by simp only [atQ]; grind)
    rw [e] at ha
    exact ha
  · exact ⟨j, hj, atQ p q t, ⟨t, t0, t1, rfl⟩, h.edge ha hj e⟩
/-- the segment has a point of the polygon, as the program tells it -/
def SegQ (n : Nat) (f : Nat → RP) (p q : RP) : Prop := InsQ n f p ∨ ∃ i, i < n ∧ MeetQ p q (f i) (f (nxQ n i))
theorem segQ_iff {n : Nat} {f : Nat → RP} (h : ConvQ n f) {p q : RP} : SegQ n f p q ↔ ∃ x, OnQ p q x ∧ InsQ n f x := by
  constructor
  · rintro (hp | ⟨i, hi, hm⟩)
    · exact ⟨p, OnQ.left _ _, hp⟩
    · obtain ⟨x, h1, h2⟩ := meet_com hm
      exact ⟨x, h1, h.on hi h2⟩
  · rintro ⟨x, hx, hi⟩
    by_cases hp : InsQ n f p
    · exact .inl hp
    · obtain ⟨i, hin, y, h1, h2⟩ := h.leave hi hp
      exact .inr ⟨i, hin, com_meet ⟨y, hx.sub (OnQ.left _ _) h1, h2⟩⟩
theorem segQ_flip {n : Nat} {f : Nat → RP} (h : ConvQ n f) {p q : RP} : SegQ n f p q ↔ SegQ n f q p := by
  rw [segQ_iff h, segQ_iff h]
  exact ⟨fun ⟨x, a, b⟩ => ⟨x, a.symm, b⟩, fun ⟨x, a, b⟩ => ⟨x, a.symm, b⟩⟩
theorem segQ_halves {n : Nat} {f : Nat → RP} (h : ConvQ n f) {p q : RP} : (SegQ n f p (midQ p q) ∨ SegQ n f (midQ p q) q) ↔ SegQ n f p q := by
  rw [segQ_iff h, segQ_iff h, segQ_iff h]
  constructor
  · rintro (⟨x, a, b⟩ | ⟨x, a, b⟩)
    · exact ⟨x, (OnQ.left p q).sub (mid_onQ p q) a, b⟩
    · exact ⟨x, (mid_onQ p q).sub (OnQ.right p q) a, b⟩
  · rintro ⟨x, a, b⟩
    rcases a.halves with a | a
    · exact .inl ⟨x, a, b⟩
    · exact .inr ⟨x, a, b⟩
/-! ### distances -/
end Go.Proofs.YtcpncoonbdbkmaaGreat

/-
  Fractions and the rational numbers that they are: what each operation on whole fractions makes of the values; what is small stays valid.
-/



namespace Go.Proofs.YtcpncoonbdbkmaaGreat
open Go.RowKit
set_option linter.unusedVariables false
/-- the number that a fraction is -/
def rv (Z : RQ) : Rat := (zv Z.1.1 Z.1.2 : Rat) / (natV Z.2 : Rat)
theorem natQ_pos {n : Nat} (h : 0 < n) : (0 : Rat) < (n : Rat) := by exact_mod_cast h
theorem IsR.rv {Z : RQ} {z : Int} {d : Nat} (h : IsR Z z d) : rv Z = (z : Rat) / (d : Rat) := by
  have h1 := natQ_pos h.pos
  have h2 := natQ_pos h.dpos
  obtain ⟨_, _, g, hg, hz, hd⟩ := h
  have e1 : (zv Z.1.1 Z.1.2 : Rat) * (g : Rat) = (z : Rat) := by exact_mod_cast congrArg (Int.cast (R := Rat)) hz
  have e2 : (natV Z.2 : Rat) * (g : Rat) = (d : Rat) := by exact_mod_cast congrArg (Nat.cast (R := Rat)) hd
  have hg' := natQ_pos hg
  unfold Go.Proofs.YtcpncoonbdbkmaaGreat.rv
  rw [← e1, ← e2]
  grind
/-- a valid fraction is the reduced one of its own parts -/
theorem valid_is {Z : RQ} (h : ratQ Z = true) : IsR Z (zv Z.1.1 Z.1.2) (natV Z.2) := by
  have hx := ratB_big h
  have hd := ratB_den h
  have h0 := ratB_pos h
  have hn := bigB_nat hx
  obtain ⟨s1, s2⟩ := ratB_short h
  have hp := natV_pos hd h0
  have hg : gcdL Z.1.2 Z.2 = [1] := by
    have h2 := h
    unfold ratQ ratB at h2
    simp only [Bool.and_eq_true, decide_eq_true_eq] at h2
    exact h2.2
  have hc : Nat.gcd (zv Z.1.1 Z.1.2).natAbs (natV Z.2) = 1 := by
    rw [zv_abs hn]
    have e : gcdL Z.1.2 Z.2 = limbs (Nat.gcd (natV Z.1.2) (natV Z.2)) := by rw [gcdL, hn, hd]; rfl
    rw [e] at hg
    exact one_iff.1 hg
  refine ⟨?_, h, 1, by decide, by simp, by simp⟩
  rw [lowR, hc, Nat.div_one, Nat.div_one, zv_abs hn, limbs_natV hn, limbs_natV hd, zv_lt hx, if_pos ⟨by omega, s1, s2⟩]
theorem rv_inj {Z Y : RQ} (h : ratQ Z = true) (k : ratQ Y = true) (e : rv Z = rv Y) : Z = Y := by
  have h1 := valid_is h
  have k1 := valid_is k
  have p1 := natQ_pos h1.pos
  have p2 := natQ_pos k1.pos
  unfold rv at e
  have e2 : (zv Z.1.1 Z.1.2 : Rat) * (natV Y.2 : Rat) = (zv Y.1.1 Y.1.2 : Rat) * (natV Z.2 : Rat) := by grind
  exact isR_eq h1 k1 (by exact_mod_cast e2)
section
variable {Z Y : RQ}
theorem cmpV_rat {a b : Int} {x y : Rat} (h1 : a < b ↔ x < y) (h2 : a = b ↔ x = y) : (cmpV a b < 0 ↔ x < y) ∧ (cmpV a b = 0 ↔ x = y) ∧ (0 < cmpV a b ↔ y < x) := by
  unfold cmpV
  rcases Int.lt_trichotomy a b with h | h | h
  · rw [if_pos h]
    have := h1.1 h
    refine ⟨by simp; exact this, by simp; grind, by simp; grind⟩
  · have := h2.1 h
    rw [if_neg (by omega), if_neg (by omega)]
    refine ⟨by simp; grind, by simp; exact this, by simp; grind⟩
  · have n1 : ¬ x < y := fun k => by have := h1.2 k; omega
    have n2 : ¬ x = y := fun k => by have := h2.2 k; omega
    rw [if_neg (by omega), if_pos h]
    refine ⟨by simp; grind, by simp; exact n2, by simp; grind⟩
theorem cmpW_rv (h : ratQ Z = true) (k : ratQ Y = true) : (cmpW Z.1.1 Z.1.2 Z.2 Y.1.1 Y.1.2 Y.2 < 0 ↔ rv Z < rv Y) ∧ (cmpW Z.1.1 Z.1.2 Z.2 Y.1.1 Y.1.2 Y.2 = 0 ↔ rv Z = rv Y) ∧ (0 < cmpW Z.1.1 Z.1.2 Z.2 Y.1.1 Y.1.2 Y.2 ↔ rv Y < rv Z) := by
  have p1 := natQ_pos (valid_is h).pos
  have p2 := natQ_pos (valid_is k).pos
  rw [cmpW_is (valid_is h) (valid_is k)]
  have e1 : rv Z * (natV Z.2 : Rat) = (zv Z.1.1 Z.1.2 : Rat) := by unfold rv; grind
  have e2 : rv Y * (natV Y.2 : Rat) = (zv Y.1.1 Y.1.2 : Rat) := by unfold rv; grind
  have c : ∀ a b : Int, (a < b ↔ (a : Rat) < (b : Rat)) ∧ (a = b ↔ (a : Rat) = (b : Rat)) := fun a b => ⟨by exact_mod_cast Iff.rfl, by exact_mod_cast Iff.rfl⟩
  have m : (0 : Rat) < (natV Z.2 : Rat) * (natV Y.2 : Rat) := Rat.mul_pos p1 p2
  refine cmpV_rat ?_ ?_
  · rw [(c _ _).1]; push_cast
    rw [← e1, ← e2]
    constructor
    · intro hl
      rcases (show rv Z < rv Y ∨ rv Y ≤ rv Z by grind) with q | q
      · exact q
      · have := qmul_nn (show 0 ≤ rv Z - rv Y by grind) (Rat.le_of_lt m); grind
    · intro hl
      have := Rat.mul_pos (show 0 < rv Y - rv Z by grind) m; grind
  · rw [(c _ _).2]; push_cast
    rw [← e1, ← e2]
    constructor
    · intro hl
      rcases (show rv Z < rv Y ∨ rv Y < rv Z ∨ rv Z = rv Y by grind) with q | q | q
      · have := Rat.mul_pos (show 0 < rv Y - rv Z by grind) m; grind
      · have := Rat.mul_pos (show 0 < rv Z - rv Y by grind) m; grind
      · exact q
    · intro hl; rw [hl]; grind
theorem minQ_val (h : ratQ Z = true) (k : ratQ Y = true) : minQ Z Y = if rv Z ≤ rv Y then Z else Y := by
  have hc := cmpW_rv h k
  unfold minQ minR
  rw [show (ratB Z.1.1 Z.1.2 Z.2 && ratB Y.1.1 Y.1.2 Y.2) = true by unfold ratQ at h k; rw [h, k]; rfl, if_pos rfl]
  by_cases hl : rv Z ≤ rv Y
  · rw [if_pos hl, if_pos (by rcases Int.lt_or_le 0 (cmpW Z.1.1 Z.1.2 Z.2 Y.1.1 Y.1.2 Y.2) with q | q; (exact absurd (hc.2.2.1 q) (by grind)); exact q)]
  · rw [if_neg hl, if_neg (by have := hc.2.2.2 (by grind); omega)]
theorem maxQ_val (h : ratQ Z = true) (k : ratQ Y = true) : maxQ Z Y = if rv Y ≤ rv Z then Z else Y := by
  have hc := cmpW_rv h k
  unfold maxQ maxR
  rw [show (ratB Z.1.1 Z.1.2 Z.2 && ratB Y.1.1 Y.1.2 Y.2) = true by unfold ratQ at h k; rw [h, k]; rfl, if_pos rfl]
  by_cases hl : rv Y ≤ rv Z
  · rw [if_pos hl, if_pos (by rcases Int.lt_or_le (cmpW Z.1.1 Z.1.2 Z.2 Y.1.1 Y.1.2 Y.2) 0 with q | q; (exact absurd (hc.1.1 q) (by grind)); exact q)]
  · rw [if_neg hl, if_neg (by have := hc.1.2 (by grind); omega)]
end
/-! ### small fractions: they stay valid -/
/-- the number x as a fraction with parts of at most B -/
def IsV (Z : RQ) (x : Rat) (B : Nat) : Prop := ∃ (z : Int) (d : Nat), IsS Z z d B ∧ x = (z : Rat) / (d : Rat)
section
variable {Z Y : RQ} {x y : Rat} {B C : Nat}
theorem IsV.of {z : Int} {d : Nat} (h : IsS Z z d B) : IsV Z ((z : Rat) / (d : Rat)) B := ⟨z, d, h, rfl⟩
theorem IsV.ok (h : IsV Z x B) : ratQ Z = true := by obtain ⟨z, d, h, _⟩ := h; exact h.valid
theorem IsV.rv (h : IsV Z x B) : rv Z = x := by obtain ⟨z, d, h, e⟩ := h; rw [h.1.rv, e]
theorem IsV.fit (h : IsV Z x B) : QFit Z := by obtain ⟨z, d, h, _⟩ := h; exact h.fit
theorem IsV.mono (h : IsV Z x B) (hB : B ≤ C) : IsV Z x C := by obtain ⟨z, d, ⟨h1, h2, h3⟩, e⟩ := h; exact ⟨z, d, ⟨h1, by omega, by omega⟩, e⟩
theorem IsV.add (h : IsV Z x B) (k : IsV Y y C) (hB : 2 * (B * C) < 1000000000 ^ 24) : IsV (addQ Z Y) (x + y) (2 * (B * C)) := by
  obtain ⟨z, d, h, rfl⟩ := h
  obtain ⟨w, e, k, rfl⟩ := k
  have p1 := natQ_pos h.dpos
  have p2 := natQ_pos k.dpos
  exact ⟨_, _, h.add k hB, by push_cast; grind⟩
theorem IsV.mul (h : IsV Z x B) (k : IsV Y y C) (hB : 2 * (B * C) < 1000000000 ^ 24) : IsV (mulQ Z Y) (x * y) (B * C) := by
  obtain ⟨z, d, h, rfl⟩ := h
  obtain ⟨w, e, k, rfl⟩ := k
  have p1 := natQ_pos h.dpos
  have p2 := natQ_pos k.dpos
  exact ⟨_, _, h.mul k hB, by push_cast; grind⟩
theorem IsV.min (h : IsV Z x B) (k : IsV Y y C) : IsV (minQ Z Y) (if x ≤ y then x else y) (max B C) := by
  rw [minQ_val h.ok k.ok, h.rv, k.rv]
  split
  · exact h.mono (Nat.le_max_left _ _)
  · exact k.mono (Nat.le_max_right _ _)
theorem IsV.max (h : IsV Z x B) (k : IsV Y y C) : IsV (maxQ Z Y) (if y ≤ x then x else y) (Nat.max B C) := by
  rw [maxQ_val h.ok k.ok, h.rv, k.rv]
  split
  · exact h.mono (Nat.le_max_left _ _)
  · exact k.mono (Nat.le_max_right _ _)
theorem intQ_V (a : Int) (ha : a.natAbs ≤ 1000) : IsV (intQ a) (a : Rat) (max a.natAbs 1) := by
  refine ⟨a, 1, ?_, by grind⟩
  have hp : (1000 : Nat) < 1000000000 ^ 24 := by decide +kernel
  rw [intQ_low a ha]
  exact low_S (by decide) (Nat.le_max_left _ _) (Nat.le_max_right _ _) (by omega)
end
end Go.Proofs.YtcpncoonbdbkmaaGreat
