/-
  The texts BigL, RatL, PtL, put together; each has its own heading below. No condition of ours.
-/
import Derived.Test.YtdcceppednngjaaOwn
import Derived.Test.YtdcceppednngjaaPB
import Derived.Deep.CutRange
import Derived.Test.YtdcceppednngjaaPT
/-
  The laws' helpers for big integers: szBigInt, toBigInt, eqBigInt, markBigInt, heldBigInt: contracts.
-/



namespace Go.Proofs.Ytdcceppednngjaa
open Go.RowKit
set_option linter.unusedVariables false

set_option maxHeartbeats 400000 in
theorem szIntS_any (w : World) (A : Option Addr) (n c : Nat) (k : Nat) (hn : n ≤ 9223372036854775807) (hk : k ≤ 1000000000000) :
    Calls Try.prog 42 #[.slice A n c, .int .i64 k] w fun e w' => e = .returned (.int .i64 (if n ≤ k then (k : Int) - n else -1)) ∧ w = w' := by
  by_cases h : n ≤ k
  · have h1 : ¬ (k : Int) - (n : Int) < 0 := by omega
    rw [if_pos h]
    go_enter Try.func42, Try.ntmps42
    go_wp2_with fail
    go_ret
    exact ⟨rfl, rfl⟩
  · have h1 : (k : Int) - (n : Int) < 0 := by omega
    rw [if_neg h]
    go_enter Try.func42, Try.ntmps42
    go_wp2_with fail
    go_ret
    exact ⟨rfl, rfl⟩
/-- what is left of the size that may be drawn -/
def leftI (k n : Nat) : Int := if n ≤ k then (k : Int) - n else -1
set_option maxHeartbeats 400000 in
theorem szBigInt_any (w : World) (s : Bool) (A : Option Addr) (n c : Nat) (k : Nat) (hn : n ≤ 9223372036854775807) (hk : k ≤ 1000000000000) :
    Calls Try.prog 41 #[.agg #[.bool s, .slice A n c], .int .i64 k] w fun e w' => e = .returned (.int .i64 (leftI k n)) ∧ Below w.heap.size w w' := by
  have hb0 := below_new w (.cells #[.bool s, .slice A n c] 45)
  unfold leftI
  by_cases h : n ≤ k
  · rw [if_pos h]
    have h1 : ¬ (k : Int) - (n : Int) < 0 := by omega
    have HC := hide (szIntS_any (w.alloc (.cells #[.bool s, .slice A n c] 45)) A n c k hn hk)
    rw [if_pos h] at HC
    go_enter Try.func41, Try.ntmps41
    go_wp2_with fail
    refine HC.out.mono ?_
    rintro e w1 ⟨rfl, rfl⟩
    go_wp2_with fail
    go_ret
    exact ⟨rfl, hb0⟩
  · rw [if_neg h]
    have HC := hide (szIntS_any (w.alloc (.cells #[.bool s, .slice A n c] 45)) A n c k hn hk)
    rw [if_neg h] at HC
    go_enter Try.func41, Try.ntmps41
    go_wp2_with fail
    refine HC.out.mono ?_
    rintro e w1 ⟨rfl, rfl⟩
    go_wp2_with fail
    go_ret
    exact ⟨rfl, hb0⟩
set_option maxHeartbeats 800000 in
theorem toBigInt_any (w : World) (B : Nat) (hB : B ≤ w.heap.size) (s : Bool) (A : Option Addr) (n c : Nat) (xs : List Int) (R : RdI w B A n xs) :
    Calls Try.prog 48 #[.agg #[.bool s, .slice A n c]] w fun e w' => ∃ g, e = .returned (.agg #[.bool s, .slice (some ⟨g, 0, none⟩) n n]) ∧ Own w' w.heap.size w'.heap.size 3 (.slice (some ⟨g, 0, none⟩) n n) n (iv xs) ∧ Below w.heap.size w w' := by
  have hl := R.2.2.1
  obtain ⟨W0, hW0⟩ : ∃ W0, W0 = ((w.alloc (.cells #[.bool s, .slice A n c] 45)).alloc (.cells #[.bool false, .slice none 0 0] 49)).alloc (.cells #[.bool s, .slice none 0 0] 49) := ⟨_, rfl⟩
  have hb0 : Below w.heap.size w W0 := by rw [hW0]; exact below_alloc (below_alloc (below_new _ _) _) _
  have kr : Box W0 (w.heap.size + 1) 49 #[.bool false, .slice none 0 0] := by rw [hW0]; exact (Box.last _ _ _ (alloc_size _ _).symm).alloc _
  have ko : Box W0 (w.heap.size + 2) 49 #[.bool s, .slice none 0 0] := by rw [hW0]; exact Box.last _ _ _ (by rw [alloc_size, alloc_size])
  have hs0 : W0.heap.size = w.heap.size + 3 := by rw [hW0, alloc_size, alloc_size, alloc_size]
  have HC := hide (toIntS_any A n c B xs W0 R.1 (R.2.1.below (hb0.mono hB)) (by omega) (by omega))
  have hnl : xs.length = n := R.1
  go_enter Try.func48, Try.ntmps48
  go_wp2_with fail
  rw [← hW0]
  clear hW0
  refine HC.out.mono ?_
  rintro e w1 ⟨g, rfl, q1, hb1⟩
  have o1 := Own.of_row q1 (Nat.le_refl _)
  have kr1 := kr.below hb1 kr.lt
  have ko1 := ko.below hb1 ko.lt
  have hb1' := below_then hb0 hb1
  have hs1 := hb1.size
  clear kr ko hb0 hb1 q1 HC R
  obtain ⟨t0, t1, z0, z1⟩ := kr1.facts
  obtain ⟨u0, u1, y0, y1⟩ := ko1.facts
  have ko2 : Box (w1.setCell ⟨w.heap.size + 2, 1, none⟩ (.slice (some ⟨g, 0, none⟩) n n)) (w.heap.size + 2) 49 #[.bool s, .slice (some ⟨g, 0, none⟩) n n] := ko1.set 1 _
  have kr2 := kr1.setv (show w.heap.size + 1 ≠ w.heap.size + 2 by omega) 1 (.slice (some ⟨g, 0, none⟩) n n)
  have o2 := o1.setv (g := w.heap.size + 2) (.inl (by omega)) 1 (.slice (some ⟨g, 0, none⟩) n n)
  have hb2 := hb1'.setCell (p := ⟨w.heap.size + 2, 1, none⟩) (show w.heap.size ≤ w.heap.size + 2 by omega) (.slice (some ⟨g, 0, none⟩) n n)
  have HO := hide (ret_big (x := .bool s) kr2 o2 hb2 (show w.heap.size ≤ w.heap.size + 1 by omega) (by omega) (by rw [setCell_size]; exact Nat.le_refl _))
  have HK2 := hide ko2
  obtain ⟨W2, hW2⟩ : ∃ W2, W2 = w1.setCell ⟨w.heap.size + 2, 1, none⟩ (.slice (some ⟨g, 0, none⟩) n n) := ⟨_, rfl⟩
  rw [← hW2] at HK2 HO
  have HKR := hide kr2
  rw [← hW2] at HKR
  clear kr1 ko1 ko2 kr2 o1 o2 hb2 hb1'
  go_upto_region 4 with fail
  rw [← hW2]
  clear hW2 t0 t1 z0 z1 u0 u1 y0 y1
  obtain ⟨t0, t1, z0, z1⟩ := HKR.out.facts
  obtain ⟨u0, u1, y0, y1⟩ := HK2.out.facts
  go_wp2_with fail
  refine bodyPost_ret (results_cell_row rfl _ _ (w.heap.size + 1) _ #[.bool s, .slice (some ⟨g, 0, none⟩) n n] (0, 0) _ rfl HO.out.1 Try.underlying49 rfl Try.sizeBig) rfl ?_
  exact ⟨_, rfl, HO.out.2.1, HO.out.2.2⟩
set_option maxHeartbeats 800000 in
theorem eqBigInt_any (w : World) (B : Nat) (hB : B ≤ w.heap.size) (s : Bool) (A A' : Option Addr) (n c c' : Nat) (xs : List Int) (hn : xs.length = n) (hx : Rd w B A (iv xs)) (hy : Rd w B A' (iv xs)) (hl : n ≤ 1000000000) :
    Calls Try.prog 58 #[.agg #[.bool s, .slice A n c], .agg #[.bool s, .slice A' n c']] w fun e w' => e = .returned (.bool true) ∧ Below w.heap.size w w' := by
  obtain ⟨W0, hW0⟩ : ∃ W0, W0 = (w.alloc (.cells #[.bool s, .slice A n c] 49)).alloc (.cells #[.bool s, .slice A' n c'] 49) := ⟨_, rfl⟩
  have hb0 : Below w.heap.size w W0 := by rw [hW0]; exact below_alloc (below_new _ _) _
  have HC := hide (eqIntS_below A A' n n c c' xs xs B W0 hn hn (hx.below (hb0.mono hB)) (hy.below (hb0.mono hB)) (by unfold maxLen; omega) (by unfold maxLen; omega) true (decide_eq_true rfl))
  have hss : (s != s) = false := by cases s <;> rfl
  clear hx hy
  go_enter Try.func58, Try.ntmps58
  go_wp2_with fail
  rw [← hW0]
  clear hW0
  refine HC.out.mono ?_
  rintro e w1 ⟨rfl, hb1⟩
  have hb1' := below_then hb0 hb1
  go_wp2_with fail
  go_ret
  exact ⟨rfl, hb1'⟩
end Go.Proofs.Ytdcceppednngjaa

/-
  The laws' helpers for fractions: szRat, toRat, eqRat, markRat, heldRat: contracts.
-/



namespace Go.Proofs.Ytdcceppednngjaa
open Go.RowKit
set_option linter.unusedVariables false
/-- two lists of the call's own, in stretches apart, all from block lo up to hi -/
def PairH (w : World) (lo hi : Nat) (E : TypeId) (v1 : Value) (n1 : Nat) (X1 : List Value) (v2 : Value) (n2 : Nat) (X2 : List Value) : Prop :=
  ∃ l1 h1 l2 h2, Own w l1 h1 E v1 n1 X1 ∧ Own w l2 h2 E v2 n2 X2 ∧ lo ≤ l1 ∧ lo ≤ l2 ∧ h1 ≤ hi ∧ h2 ≤ hi ∧ (h1 ≤ l2 ∨ h2 ≤ l1)
def BothH (w : World) (lo hi : Nat) (E : TypeId) (v1 : Value) (n1 : Nat) (X1 : List Value) (v2 : Value) (n2 : Nat) (X2 : List Value) : Prop :=
  Own w lo hi E v1 n1 X1 ∧ Own w lo hi E v2 n2 X2
section
variable {w w' : World} {lo hi lo' hi' n1 n2 B c1 c2 : Nat} {E : TypeId} {v1 v2 : Value} {X1 X2 : List Value} {A1 A2 : Option Addr}
theorem PairH.both (h : PairH w lo hi E v1 n1 X1 v2 n2 X2) : BothH w lo hi E v1 n1 X1 v2 n2 X2 := by
  obtain ⟨l1, h1, l2, h2, o1, o2, a, b, c, d, _⟩ := h
  exact ⟨o1.wider a c, o2.wider b d⟩
theorem PairH.below (h : PairH w lo hi E v1 n1 X1 v2 n2 X2) (hb : Below B w w') (hh : hi ≤ B) : PairH w' lo hi E v1 n1 X1 v2 n2 X2 := by
  obtain ⟨l1, h1, l2, h2, o1, o2, a, b, c, d, e⟩ := h
  exact ⟨l1, h1, l2, h2, o1.below hb (by omega), o2.below hb (by omega), a, b, c, d, e⟩
theorem BothH.below (h : BothH w lo hi E v1 n1 X1 v2 n2 X2) (hb : Below B w w') (hh : hi ≤ B) : BothH w' lo hi E v1 n1 X1 v2 n2 X2 := ⟨h.1.below hb hh, h.2.below hb hh⟩
end
set_option maxHeartbeats 800000 in
theorem szRat_any (w : World) (s : Bool) (A : Option Addr) (n c : Nat) (D : Option Addr) (m d : Nat) (k : Nat) (hn : n ≤ 9223372036854775807) (hm : m ≤ 9223372036854775807) (hk : k ≤ 1000000000000) :
    Calls Try.prog 19 #[.agg #[.bool s, .slice A n c, .slice D m d], .int .i64 k] w fun e w' => e = .returned (.int .i64 (leftI k (n + m))) ∧ Below w.heap.size w w' := by
  have hb0 := below_new w (.cells #[.bool s, .slice A n c, .slice D m d] 47)
  have k0 := Box.last w 47 #[.bool s, .slice A n c, .slice D m d] rfl
  have HC := hide (szBigInt_any (w.alloc (.cells #[.bool s, .slice A n c, .slice D m d] 47)) s A n c k hn hk)
  by_cases h : n ≤ k
  · obtain ⟨r, hr⟩ : ∃ r : Nat, r + n = k := ⟨k - n, by omega⟩
    have e1 : leftI k n = (r : Int) := by rw [leftI, if_pos h]; omega
    rw [e1] at HC
    have hng : ¬ (r : Int) < 0 := by omega
    by_cases h2 : m ≤ r
    · have e2 : leftI k (n + m) = (if m ≤ r then (r : Int) - m else -1) := by rw [leftI, if_pos (by omega), if_pos h2]; omega
      have hn2 : ¬ (r : Int) - (m : Int) < 0 := by omega
      have HC2 := hide (fun (W : World) => szIntS_any W D m d r hm (by omega))
      rw [e2]
      clear e2 e1 hr h
      rw [if_pos h2] at HC2 ⊢
      go_enter Try.func19, Try.ntmps19
      go_wp2_with fail
      refine HC.out.mono ?_
      rintro e w1 ⟨rfl, hb1⟩
      obtain ⟨a0, a1, a2⟩ := (k0.below hb1 k0.lt).cells3
      have hb1' := below_then hb0 hb1
      go_wp2_with fail
      refine (HC2.out w1).mono ?_
      rintro e w2 ⟨rfl, rfl⟩
      go_wp2_with fail
      go_ret
      exact ⟨rfl, hb1'⟩
    · have e2 : leftI k (n + m) = (if m ≤ r then (r : Int) - m else -1) := by rw [leftI, if_neg (by omega), if_neg h2]
      have HC2 := hide (fun (W : World) => szIntS_any W D m d r hm (by omega))
      rw [e2]
      clear e2 e1 hr h
      rw [if_neg h2] at HC2 ⊢
      go_enter Try.func19, Try.ntmps19
      go_wp2_with fail
      refine HC.out.mono ?_
      rintro e w1 ⟨rfl, hb1⟩
      obtain ⟨a0, a1, a2⟩ := (k0.below hb1 k0.lt).cells3
      have hb1' := below_then hb0 hb1
      go_wp2_with fail
      refine (HC2.out w1).mono ?_
      rintro e w2 ⟨rfl, rfl⟩
      go_wp2_with fail
      go_ret
      exact ⟨rfl, hb1'⟩
  · have e1 : leftI k n = -1 := if_neg h
    have e2 : leftI k (n + m) = -1 := if_neg (by omega)
    rw [e1] at HC
    rw [e2]
    clear e1 e2
    go_enter Try.func19, Try.ntmps19
    go_wp2_with fail
    refine HC.out.mono ?_
    rintro e w1 ⟨rfl, hb1⟩
    have hb1' := below_then hb0 hb1
    go_wp2_with fail
    go_ret
    exact ⟨rfl, hb1'⟩
set_option maxRecDepth 100000 in
set_option maxHeartbeats 1600000 in
theorem toRat_any (w : World) (B : Nat) (hB : B ≤ w.heap.size) (s : Bool) (A : Option Addr) (n c : Nat) (xs : List Int) (Rx : RdI w B A n xs) (D : Option Addr) (m k : Nat) (ds : List Int) (Rd' : RdI w B D m ds) :
    Calls Try.prog 21 #[.agg #[.bool s, .slice A n c, .slice D m k]] w fun e w' => ∃ g1 g2, e = .returned (.agg #[.bool s, .slice (some ⟨g1, 0, none⟩) n n, .slice (some ⟨g2, 0, none⟩) m m]) ∧ PairH w' w.heap.size w'.heap.size 3 (.slice (some ⟨g1, 0, none⟩) n n) n (iv xs) (.slice (some ⟨g2, 0, none⟩) m m) m (iv ds) ∧ Below w.heap.size w w' := by
  have hln := Rx.2.2.1
  have hlm := Rd'.2.2.1
  obtain ⟨W0, hW0⟩ : ∃ W0, W0 = (((w.alloc (.cells #[.bool s, .slice A n c, .slice D m k] 47)).alloc (.cells #[.bool false, .slice none 0 0, .slice none 0 0] 51)).alloc (.cells #[.bool false, .slice none 0 0, .slice none 0 0] 51)) := ⟨_, rfl⟩
  have hb0 : Below w.heap.size w W0 := by rw [hW0]; exact below_alloc (below_alloc (below_new _ _) _) _
  have kx : Box W0 (w.heap.size) 47 #[.bool s, .slice A n c, .slice D m k] := by rw [hW0]; exact ((Box.last _ _ _ rfl).alloc _).alloc _
  have kr : Box W0 (w.heap.size + 1) 51 #[.bool false, .slice none 0 0, .slice none 0 0] := by rw [hW0]; exact (Box.last _ _ _ (alloc_size _ _).symm).alloc _
  have ko : Box W0 (w.heap.size + 2) 51 #[.bool false, .slice none 0 0, .slice none 0 0] := by rw [hW0]; exact Box.last _ _ _ (by rw [alloc_size, alloc_size])
  have hs0 : W0.heap.size = w.heap.size + 3 := by rw [hW0, alloc_size, alloc_size, alloc_size]
  go_enter Try.func21, Try.ntmps21
  go_upto_region 2 with fail
  rw [← hW0]
  clear hW0
  obtain ⟨a0, a1, a2⟩ := kx.cells3
  go_wp2_with fail
  refine (toBigInt_any W0 B (by omega) s A n c xs (Rx.below (hb0.mono hB))).mono ?_
  rintro e w1 ⟨g1, rfl, o1, hb1⟩
  have hs1 := hb1.size
  have kx1 := kx.below hb1 kx.lt
  have kr1 := kr.below hb1 kr.lt
  have ko1 := ko.below hb1 ko.lt
  have hb1' := below_then hb0 hb1
  clear a0 a1 a2 kx kr ko hb0 hb1
  obtain ⟨w2, hw2⟩ : ∃ x, x = (w1.setCell ⟨w.heap.size + 2, 0, none⟩ (.bool s)).setCell ⟨w.heap.size + 2, 1, none⟩ (.slice (some ⟨g1, 0, none⟩) n n) := ⟨_, rfl⟩
  have ko2 : Box w2 (w.heap.size + 2) 51 #[.bool s, .slice (some ⟨g1, 0, none⟩) n n, .slice none 0 0] := by rw [hw2]; exact (ko1.set 0 _).set 1 _
  have kx2 : Box w2 w.heap.size 47 #[.bool s, .slice A n c, .slice D m k] := by rw [hw2]; exact (kx1.setv (by omega) 0 _).setv (by omega) 1 _
  have kr2 : Box w2 (w.heap.size + 1) 51 #[.bool false, .slice none 0 0, .slice none 0 0] := by rw [hw2]; exact (kr1.setv (by omega) 0 _).setv (by omega) 1 _
  have o2 : Own w2 W0.heap.size w1.heap.size 3 (.slice (some ⟨g1, 0, none⟩) n n) n (iv xs) := by rw [hw2]; exact (o1.setv (.inl (by omega)) 0 _).setv (.inl (by omega)) 1 _
  have hs2 : w2.heap.size = w1.heap.size := by rw [hw2, setCell_size, setCell_size]
  have hb2' : Below w.heap.size w w2 := by rw [hw2]; exact below_set2 hb1' (by omega) _ _
  obtain ⟨y0, y1, y2, y3, y4, y5⟩ := ko1.facts3
  clear o1 kx1 kr1 hb1'
  go_upto_region 3 with fail
  rw [← hw2]
  clear hw2 y0 y1 y2 y3 y4 y5 ko1
  obtain ⟨a0, a1, a2⟩ := kx2.cells3
  go_wp2_with fail
  refine (toIntS_any D m k B ds w2 Rd'.1 (Rd'.below (hb2'.mono hB)).2.1 (by omega) (by omega)).mono ?_
  rintro e w3 ⟨g2, rfl, q3, hb3⟩
  have o3 := Own.of q3
  have hs3 := hb3.size
  have kr3 := kr2.below hb3 kr2.lt
  have ko3 := ko2.below hb3 ko2.lt
  have hb3' := below_then hb2' hb3
  have o2' := o2.below hb3 (by omega)
  clear a0 a1 a2 kx2 kr2 ko2 hb2' hb3 q3 o2
  obtain ⟨w4, hw4⟩ : ∃ x, x = w3.setCell ⟨w.heap.size + 2, 2, none⟩ (.slice (some ⟨g2, 0, none⟩) m m) := ⟨_, rfl⟩
  have ko4 : Box w4 (w.heap.size + 2) 51 #[.bool s, .slice (some ⟨g1, 0, none⟩) n n, .slice (some ⟨g2, 0, none⟩) m m] := by rw [hw4]; exact ko3.set 2 _
  have kr4 : Box w4 (w.heap.size + 1) 51 #[.bool false, .slice none 0 0, .slice none 0 0] := by rw [hw4]; exact kr3.setv (by omega) 2 _
  have P4 : PairH w4 W0.heap.size w4.heap.size 3 (.slice (some ⟨g1, 0, none⟩) n n) n (iv xs) (.slice (some ⟨g2, 0, none⟩) m m) m (iv ds) := by rw [hw4]; exact ⟨_, _, _, _, o2'.setv (.inl (by omega)) 2 _, o3.setv (.inl (by omega)) 2 _, Nat.le_refl _, by omega, by rw [setCell_size]; omega, by rw [setCell_size]; exact Nat.le_refl _, .inl (by omega)⟩
  have hb4' : Below w.heap.size w w4 := by rw [hw4]; exact hb3'.setCell (p := ⟨w.heap.size + 2, 2, none⟩) (show w.heap.size ≤ w.heap.size + 2 by omega) _
  obtain ⟨y0, y1, y2, y3, y4, y5⟩ := ko3.facts3
  clear o2' o3 kr3 hb3'
  go_upto_region 4 with fail
  rw [← hw4]
  clear hw4 y0 y1 y2 y3 y4 y5 ko3
  obtain ⟨a0, a1, a2⟩ := ko4.cells3
  obtain ⟨z0, z1, z2, z3, z4, z5⟩ := kr4.facts3
  have HO : Hid (Box (((w4.setCell ⟨w.heap.size + 1, 0, none⟩ (.bool s)).setCell ⟨w.heap.size + 1, 1, none⟩ (.slice (some ⟨g1, 0, none⟩) n n)).setCell ⟨w.heap.size + 1, 2, none⟩ (.slice (some ⟨g2, 0, none⟩) m m)) (w.heap.size + 1) 51 #[.bool s, .slice (some ⟨g1, 0, none⟩) n n, .slice (some ⟨g2, 0, none⟩) m m] ∧ PairH (((w4.setCell ⟨w.heap.size + 1, 0, none⟩ (.bool s)).setCell ⟨w.heap.size + 1, 1, none⟩ (.slice (some ⟨g1, 0, none⟩) n n)).setCell ⟨w.heap.size + 1, 2, none⟩ (.slice (some ⟨g2, 0, none⟩) m m)) w.heap.size (((w4.setCell ⟨w.heap.size + 1, 0, none⟩ (.bool s)).setCell ⟨w.heap.size + 1, 1, none⟩ (.slice (some ⟨g1, 0, none⟩) n n)).setCell ⟨w.heap.size + 1, 2, none⟩ (.slice (some ⟨g2, 0, none⟩) m m)).heap.size 3 (.slice (some ⟨g1, 0, none⟩) n n) n (iv xs) (.slice (some ⟨g2, 0, none⟩) m m) m (iv ds) ∧ Below w.heap.size w (((w4.setCell ⟨w.heap.size + 1, 0, none⟩ (.bool s)).setCell ⟨w.heap.size + 1, 1, none⟩ (.slice (some ⟨g1, 0, none⟩) n n)).setCell ⟨w.heap.size + 1, 2, none⟩ (.slice (some ⟨g2, 0, none⟩) m m))) := by
    obtain ⟨l1, h1, l2, h2, p1, p2, ha, hb, hc, hd, he⟩ := P4
    exact ⟨kr4.set3 _ _ _, ⟨l1, h1, l2, h2, p1.setv3 (.inl (by omega)) _ _ _, p2.setv3 (.inl (by omega)) _ _ _, by omega, by omega, by rw [setCell3_size]; omega, by rw [setCell3_size]; omega, he⟩, below_set3 hb4' (by omega) _ _ _⟩
  clear P4 kr4 hb4' ko4
  go_wp2_with fail
  refine bodyPost_ret (results_cell_row rfl _ _ (w.heap.size + 1) _ #[.bool s, .slice (some ⟨g1, 0, none⟩) n n, .slice (some ⟨g2, 0, none⟩) m m] (0, 0) _ rfl HO.out.1 Try.underlying51 rfl Try.sizeRat) rfl ?_
  exact ⟨_, _, rfl, HO.out.2.1, HO.out.2.2⟩
set_option maxRecDepth 100000 in
set_option maxHeartbeats 800000 in
theorem eqRat_any (w : World) (B : Nat) (hB : B ≤ w.heap.size) (s : Bool) (A A' : Option Addr) (n c c' : Nat) (xs : List Int) (hn : xs.length = n) (hx : Rd w B A (iv xs)) (hy : Rd w B A' (iv xs)) (D D' : Option Addr) (m d d' : Nat) (ds : List Int) (hm : ds.length = m) (hu : Rd w B D (iv ds)) (hv : Rd w B D' (iv ds)) (hl : n ≤ 1000000000) (hl' : m ≤ 1000000000) :
    Calls Try.prog 23 #[.agg #[.bool s, .slice A n c, .slice D m d], .agg #[.bool s, .slice A' n c', .slice D' m d']] w fun e w' => e = .returned (.bool true) ∧ Below w.heap.size w w' := by
  obtain ⟨W0, hW0⟩ : ∃ W0, W0 = (w.alloc (.cells #[.bool s, .slice A n c, .slice D m d] 51)).alloc (.cells #[.bool s, .slice A' n c', .slice D' m d'] 51) := ⟨_, rfl⟩
  have hb0 : Below w.heap.size w W0 := by rw [hW0]; exact below_alloc (below_new _ _) _
  have kx : Box W0 w.heap.size 51 #[.bool s, .slice A n c, .slice D m d] := by rw [hW0]; exact (Box.last _ _ _ rfl).alloc _
  have ky : Box W0 (w.heap.size + 1) 51 #[.bool s, .slice A' n c', .slice D' m d'] := by rw [hW0]; exact Box.last _ _ _ (alloc_size _ _).symm
  have hs0 := hb0.size
  have HC1 := hide (eqBigInt_any W0 B (by omega) s A A' n c c' xs hn (hx.below (hb0.mono hB)) (hy.below (hb0.mono hB)) hl)
  have HC2 := hide (fun (W : World) (h : Below W0.heap.size W0 W) => eqIntS_below D D' m m d d' ds ds B W hm hm ((hu.below (hb0.mono hB)).below (h.mono (by omega))) ((hv.below (hb0.mono hB)).below (h.mono (by omega))) (by unfold maxLen; omega) (by unfold maxLen; omega) true (decide_eq_true rfl))
  clear hx hy hu hv
  obtain ⟨a0, a1, a2⟩ := kx.cells3
  obtain ⟨b0, b1, b2⟩ := ky.cells3
  go_enter Try.func23, Try.ntmps23
  go_upto_region 1 with fail
  rw [← hW0]
  clear hW0
  go_wp2_with fail
  refine HC1.out.mono ?_
  rintro e w1 ⟨rfl, hb1⟩
  have hb1' := below_then hb0 hb1
  have HC3 := hide (HC2.out _ hb1)
  have kx1 := kx.below hb1 kx.lt
  have ky1 := ky.below hb1 ky.lt
  clear a0 a1 a2 b0 b1 b2 kx ky hb0 hb1 HC1 HC2
  obtain ⟨a0, a1, a2⟩ := kx1.cells3
  obtain ⟨b0, b1, b2⟩ := ky1.cells3
  go_wp2_with fail
  refine HC3.out.mono ?_
  rintro e w2 ⟨rfl, hb2⟩
  have hb2' := below_then hb1' hb2
  go_wp2_with fail
  go_ret
  exact ⟨rfl, hb2'⟩
end Go.Proofs.Ytdcceppednngjaa

/-
  The laws' helpers told over whole fractions, and the same for vectors and points: szPoint, toVec, toPoint, eqVec, eqPoint, markPoint, heldPoint.
-/


namespace Go.Proofs.Ytdcceppednngjaa
open Go.RowKit
set_option linter.unusedVariables false
/-- three cells with two lists of L elements in all -/
def QLen (v0 v1 v2 : Value) (L : Nat) : Prop := ∃ s A n c D m d, v0 = .bool s ∧ v1 = .slice A n c ∧ v2 = .slice D m d ∧ L = n + m ∧ n ≤ 9223372036854775807 ∧ m ≤ 9223372036854775807
/-- a fraction that came in -/
def QRow (w : World) (v0 v1 v2 : Value) : Prop := ∃ s A n c z D m d y, v0 = .bool s ∧ v1 = .slice A n c ∧ v2 = .slice D m d ∧ IsRow .i64 w A n c z ∧ IsRow .i64 w D m d y
theorem IsRow.cap {w : World} {a : Option Addr} {len cap : Nat} {zs : List Int} (h : IsRow .i64 w a len cap zs) : len ≤ cap ∧ cap ≤ maxLen := by
  rcases h with ⟨_, rfl, rfl, _⟩ | ⟨x, _, h1, h2, _⟩
  · exact ⟨Nat.le_refl _, Nat.zero_le _⟩
  · exact ⟨h1, h2⟩
theorem QRow.len {w : World} {v0 v1 v2 : Value} (h : QRow w v0 v1 v2) : ∃ L, QLen v0 v1 v2 L ∧ (L ≤ 1048576 → ∃ Z, QIn w w.heap.size v0 v1 v2 Z) := by
  obtain ⟨s, A, n, c, z, D, m, d, y, e0, e1, e2, r1, r2⟩ := h
  have c1 := r1.cap
  have c2 := r2.cap
  have hm1 := c1.2
  have hm2 := c2.2
  unfold maxLen at hm1 hm2
  refine ⟨n + m, ⟨s, A, n, c, D, m, d, e0, e1, e2, rfl, by omega, by omega⟩, fun hl => ?_⟩
  obtain ⟨xs, hx⟩ := r1.rdI (by omega)
  obtain ⟨ds, hd⟩ := r2.rdI (by omega)
  exact ⟨((s, xs), ds), A, n, c, D, m, d, e0, e1, e2, hx, hd, c1, c2⟩
theorem szQ_any (w : World) {v0 v1 v2 : Value} {L : Nat} (h : QLen v0 v1 v2 L) (k : Nat) (hk : k ≤ 1000000000000) :
    Calls Try.prog 19 #[.agg #[v0, v1, v2], .int .i64 k] w fun e w' => e = .returned (.int .i64 (leftI k L)) ∧ Below w.heap.size w w' := by
  obtain ⟨s, A, n, c, D, m, d, rfl, rfl, rfl, rfl, h1, h2⟩ := h
  exact szRat_any w s A n c D m d k h1 h2 hk
theorem toQ_any (w : World) (B : Nat) (hB : B ≤ w.heap.size) {v0 v1 v2 : Value} {Z : RQ} (h : QIn w B v0 v1 v2 Z) :
    Calls Try.prog 21 #[.agg #[v0, v1, v2]] w fun e w' => QRes 3 w w' e Z := by
  obtain ⟨A, n, c, D, m, k, rfl, rfl, rfl, r1, r2, _, _⟩ := h
  refine (toRat_any w B hB Z.1.1 A n c Z.1.2 r1 D m k Z.2 r2).mono fun e w' => ?_
  obtain ⟨rfl, _⟩ := r1
  obtain ⟨rfl, _⟩ := r2
  rintro ⟨g1, g2, rfl, hp, hb⟩
  exact ⟨_, _, _, rfl, ⟨rfl, hp⟩, hb⟩
theorem eqQ_any (w : World) (B : Nat) (hB : B ≤ w.heap.size) {v0 v1 v2 u0 u1 u2 : Value} {Z : RQ} (h : QIn w B v0 v1 v2 Z) (h' : QIn w B u0 u1 u2 Z) :
    Calls Try.prog 23 #[.agg #[v0, v1, v2], .agg #[u0, u1, u2]] w fun e w' => e = .returned (.bool true) ∧ Below w.heap.size w w' := by
  obtain ⟨A, n, c, D, m, k, rfl, rfl, rfl, r1, r2, _, _⟩ := h
  obtain ⟨A', n', c', D', m', k', rfl, rfl, rfl, r1', r2', _, _⟩ := h'
  obtain ⟨rfl, q1, _, _⟩ := r1
  obtain ⟨rfl, q2, _, _⟩ := r2
  obtain ⟨rfl, q1', _, _⟩ := r1'
  obtain ⟨rfl, q2', _, _⟩ := r2'
  exact eqRat_any w B hB Z.1.1 A A' _ c c' Z.1.2 rfl q1 q1' D D' _ k k' Z.2 rfl q2 q2' (by omega) (by omega)
/-! vectors -/
theorem Try.sizeVec : (Try.prog.info? 27).map (·.size) = some 2 := by kernel_rfl
theorem toVec_any (w : World) (x y : Int) (hx : (Lit.int .i64 x).wf = true) (hy : (Lit.int .i64 y).wf = true) :
    Calls Try.prog 29 #[.agg #[.int .i64 x, .int .i64 y]] w fun e w' => e = .returned (.agg #[.int .i64 x, .int .i64 y]) ∧ Below w.heap.size w w' := by
  obtain ⟨hx1, hx2⟩ := bounds_i64 hx
  obtain ⟨hy1, hy2⟩ := bounds_i64 hy
  go_enter Try.func29, Try.ntmps29
  go_wp2_with fail
  refine bodyPost_ret (results_cell_row rfl _ _ (w.heap.size + 1) _ #[.int .i64 x, .int .i64 y] (0, 0) _ rfl (show Box _ _ 27 #[.int .i64 x, .int .i64 y] from (Box.last _ _ _ (alloc_size _ _).symm).alloc _) Try.underlying27 rfl Try.sizeVec) rfl ?_
  · exact ⟨rfl, below_alloc (below_alloc (below_new _ _) _) _⟩
/-- six cells with lists of L elements in all -/
def PLen (v0 v1 v2 v3 v4 v5 : Value) (L : Nat) : Prop := ∃ n m, QLen v0 v1 v2 n ∧ QLen v3 v4 v5 m ∧ L = n + m
def PRow (w : World) (v0 v1 v2 v3 v4 v5 : Value) : Prop := QRow w v0 v1 v2 ∧ QRow w v3 v4 v5
theorem PRow.len {w : World} {v0 v1 v2 v3 v4 v5 : Value} (h : PRow w v0 v1 v2 v3 v4 v5) : ∃ L, PLen v0 v1 v2 v3 v4 v5 L ∧ (L ≤ 1048576 → ∃ P, PIn w w.heap.size v0 v1 v2 v3 v4 v5 P) := by
  obtain ⟨n, h1, k1⟩ := h.1.len
  obtain ⟨m, h2, k2⟩ := h.2.len
  refine ⟨n + m, ⟨n, m, h1, h2, rfl⟩, fun hl => ?_⟩
  obtain ⟨Z, hZ⟩ := k1 (by omega)
  obtain ⟨Y, hY⟩ := k2 (by omega)
  exact ⟨(Z, Y), hZ, hY⟩
end Go.Proofs.Ytdcceppednngjaa
