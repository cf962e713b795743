/-
  The texts BigL, RatL, put together; each has its own heading below. No condition of ours.
-/
import Derived.Test.YtnbaookdeijhhaaGreatDoorMarkI
import Derived.Test.YtnbaookdeijhhaaGreatDoorPB
import Derived.Deep.CutRange
/-
  The laws' helpers for big integers: szBigInt, toBigInt, eqBigInt, markBigInt, heldBigInt: contracts.
-/



namespace Go.Proofs.YtnbaookdeijhhaaGreatDoor
open Go.RowKit
set_option linter.unusedVariables false

set_option maxHeartbeats 400000 in
theorem szIntS_any (w : World) (A : Option Addr) (n c : Nat) (k : Nat) (hn : n ≤ 9223372036854775807) (hk : k ≤ 1000000000000) :
    Calls Tryz.prog 113 #[.slice A n c, .int .i64 k] w fun e w' => e = .returned (.int .i64 (if n ≤ k then (k : Int) - n else -1)) ∧ w = w' := by
  by_cases h : n ≤ k
  · have h1 : ¬ (k : Int) - (n : Int) < 0 := by omega
    rw [if_pos h]
    go_enter Tryz.func113, Tryz.ntmps113
    go_wp2_with fail
    go_ret
    exact ⟨rfl, rfl⟩
  · have h1 : (k : Int) - (n : Int) < 0 := by omega
    rw [if_neg h]
    go_enter Tryz.func113, Tryz.ntmps113
    go_wp2_with fail
    go_ret
    exact ⟨rfl, rfl⟩
/-- what is left of the size that may be drawn -/
def leftI (k n : Nat) : Int := if n ≤ k then (k : Int) - n else -1
set_option maxHeartbeats 400000 in
theorem szBigInt_any (w : World) (s : Bool) (A : Option Addr) (n c : Nat) (k : Nat) (hn : n ≤ 9223372036854775807) (hk : k ≤ 1000000000000) :
    Calls Tryz.prog 112 #[.agg #[.bool s, .slice A n c], .int .i64 k] w fun e w' => e = .returned (.int .i64 (leftI k n)) ∧ Below w.heap.size w w' := by
  have hb0 := below_new w (.cells #[.bool s, .slice A n c] 54)
  unfold leftI
  by_cases h : n ≤ k
  · rw [if_pos h]
    have h1 : ¬ (k : Int) - (n : Int) < 0 := by omega
    have HC := hide (szIntS_any (w.alloc (.cells #[.bool s, .slice A n c] 54)) A n c k hn hk)
    rw [if_pos h] at HC
    go_enter Tryz.func112, Tryz.ntmps112
    go_wp2_with fail
    refine HC.out.mono ?_
    rintro e w1 ⟨rfl, rfl⟩
    go_wp2_with fail
    go_ret
    exact ⟨rfl, hb0⟩
  · rw [if_neg h]
    have HC := hide (szIntS_any (w.alloc (.cells #[.bool s, .slice A n c] 54)) A n c k hn hk)
    rw [if_neg h] at HC
    go_enter Tryz.func112, Tryz.ntmps112
    go_wp2_with fail
    refine HC.out.mono ?_
    rintro e w1 ⟨rfl, rfl⟩
    go_wp2_with fail
    go_ret
    exact ⟨rfl, hb0⟩
set_option maxHeartbeats 800000 in
theorem toBigInt_any (w : World) (B : Nat) (hB : B ≤ w.heap.size) (s : Bool) (A : Option Addr) (n c : Nat) (xs : List Int) (R : RdI w B A n xs) :
    Calls Tryz.prog 118 #[.agg #[.bool s, .slice A n c]] w fun e w' => ∃ g, e = .returned (.agg #[.bool s, .slice (some ⟨g, 0, none⟩) n n]) ∧ Own w' w.heap.size w'.heap.size 3 (.slice (some ⟨g, 0, none⟩) n n) n (iv xs) ∧ Below w.heap.size w w' := by
  have hl := R.2.2.1
  obtain ⟨W0, hW0⟩ : ∃ W0, W0 = ((w.alloc (.cells #[.bool s, .slice A n c] 54)).alloc (.cells #[.bool false, .slice none 0 0] 25)).alloc (.cells #[.bool s, .slice none 0 0] 25) := ⟨_, rfl⟩
  have hb0 : Below w.heap.size w W0 := by rw [hW0]; exact below_alloc (below_alloc (below_new _ _) _) _
  have kr : Box W0 (w.heap.size + 1) 25 #[.bool false, .slice none 0 0] := by rw [hW0]; exact (Box.last _ _ _ (alloc_size _ _).symm).alloc _
  have ko : Box W0 (w.heap.size + 2) 25 #[.bool s, .slice none 0 0] := by rw [hW0]; exact Box.last _ _ _ (by rw [alloc_size, alloc_size])
  have hs0 : W0.heap.size = w.heap.size + 3 := by rw [hW0, alloc_size, alloc_size, alloc_size]
  have HC := hide (toIntS_any A n c B xs W0 R.1 (R.2.1.below (hb0.mono hB)) (by omega) (by omega))
  have hnl : xs.length = n := R.1
  go_enter Tryz.func118, Tryz.ntmps118
  go_wp2_with fail
  rw [← hW0]
  clear hW0
  refine HC.out.mono ?_
  rintro e w1 ⟨g, rfl, q1, hb1⟩
  have o1 := Own.of_row q1 (Nat.le_refl _)
  have kr1 := kr.below hb1 kr.lt
  have ko1 := ko.below hb1 ko.lt
  have hb1' := below_then hb0 hb1
  have hs1 := hb1.size
  clear kr ko hb0 hb1 q1 HC R
  obtain ⟨t0, t1, z0, z1⟩ := kr1.facts
  obtain ⟨u0, u1, y0, y1⟩ := ko1.facts
  have ko2 : Box (w1.setCell ⟨w.heap.size + 2, 1, none⟩ (.slice (some ⟨g, 0, none⟩) n n)) (w.heap.size + 2) 25 #[.bool s, .slice (some ⟨g, 0, none⟩) n n] := ko1.set 1 _
  have kr2 := kr1.setv (show w.heap.size + 1 ≠ w.heap.size + 2 by omega) 1 (.slice (some ⟨g, 0, none⟩) n n)
  have o2 := o1.setv (g := w.heap.size + 2) (.inl (by omega)) 1 (.slice (some ⟨g, 0, none⟩) n n)
  have hb2 := hb1'.setCell (p := ⟨w.heap.size + 2, 1, none⟩) (show w.heap.size ≤ w.heap.size + 2 by omega) (.slice (some ⟨g, 0, none⟩) n n)
  have HO := hide (ret_big (x := .bool s) kr2 o2 hb2 (show w.heap.size ≤ w.heap.size + 1 by omega) (by omega) (by rw [setCell_size]; exact Nat.le_refl _))
  have HK2 := hide ko2
  obtain ⟨W2, hW2⟩ : ∃ W2, W2 = w1.setCell ⟨w.heap.size + 2, 1, none⟩ (.slice (some ⟨g, 0, none⟩) n n) := ⟨_, rfl⟩
  rw [← hW2] at HK2 HO
  have HKR := hide kr2
  rw [← hW2] at HKR
  clear kr1 ko1 ko2 kr2 o1 o2 hb2 hb1'
  go_upto_region 4 with fail
  rw [← hW2]
  clear hW2 t0 t1 z0 z1 u0 u1 y0 y1
  obtain ⟨t0, t1, z0, z1⟩ := HKR.out.facts
  obtain ⟨u0, u1, y0, y1⟩ := HK2.out.facts
  go_wp2_with fail
  refine bodyPost_ret (results_cell_row rfl _ _ (w.heap.size + 1) _ #[.bool s, .slice (some ⟨g, 0, none⟩) n n] (0, 0) _ rfl HO.out.1 Tryz.underlying25 rfl Tryz.sizeBig) rfl ?_
  exact ⟨_, rfl, HO.out.2.1, HO.out.2.2⟩
set_option maxHeartbeats 800000 in
theorem eqBigInt_any (w : World) (B : Nat) (hB : B ≤ w.heap.size) (s : Bool) (A A' : Option Addr) (n c c' : Nat) (xs : List Int) (hn : xs.length = n) (hx : Rd w B A (iv xs)) (hy : Rd w B A' (iv xs)) (hl : n ≤ 1000000000) :
    Calls Tryz.prog 120 #[.agg #[.bool s, .slice A n c], .agg #[.bool s, .slice A' n c']] w fun e w' => e = .returned (.bool true) ∧ Below w.heap.size w w' := by
  obtain ⟨W0, hW0⟩ : ∃ W0, W0 = (w.alloc (.cells #[.bool s, .slice A n c] 25)).alloc (.cells #[.bool s, .slice A' n c'] 25) := ⟨_, rfl⟩
  have hb0 : Below w.heap.size w W0 := by rw [hW0]; exact below_alloc (below_new _ _) _
  have HC := hide (eqIntS_below A A' n n c c' xs xs B W0 hn hn (hx.below (hb0.mono hB)) (hy.below (hb0.mono hB)) (by unfold maxLen; omega) (by unfold maxLen; omega) true (decide_eq_true rfl))
  have hss : (s != s) = false := by cases s <;> rfl
  clear hx hy
  go_enter Tryz.func120, Tryz.ntmps120
  go_wp2_with fail
  rw [← hW0]
  clear hW0
  refine HC.out.mono ?_
  rintro e w1 ⟨rfl, hb1⟩
  have hb1' := below_then hb0 hb1
  go_wp2_with fail
  go_ret
  exact ⟨rfl, hb1'⟩
theorem aside_new (w : World) (lo hi : Nat) (o : Obj) : Aside lo hi w (w.alloc o) :=
  ⟨rfl, rfl, rfl, by rw [alloc_size]; omega, fun k hk _ => by show (w.heap.push o)[k]? = _; rw [Array.getElem?_push, if_neg (by omega)]⟩
set_option maxHeartbeats 800000 in
theorem markBigInt_own (w : World) (s : Bool) (A : Option Addr) (n c k E lo hi : Nat) (xs : List Value) (o : Own w lo hi E (.slice A n c) n xs) (hhi : hi ≤ w.heap.size) (hl : n ≤ 1000000000) (hk : k ≤ 1000000000) :
    Calls Tryz.prog 124 #[.agg #[.bool s, .slice A n c], .int .i64 k] w fun e w' => e = .returned (.int .i64 ((k + n : Nat) : Int)) ∧ Own w' lo hi E (.slice A n c) n (iv (marksI k n)) ∧ Aside lo hi w w' := by
  have ha0 := aside_new w lo hi (.cells #[.bool s, .slice A n c] 25)
  have HC := hide (markIntS_own (.slice A n c) n k E lo hi xs _ (o.below (below_new w (.cells #[.bool s, .slice A n c] 25)) hhi) hl hk)
  go_enter Tryz.func124, Tryz.ntmps124
  go_wp2_with fail
  refine HC.out.mono ?_
  rintro e w1 ⟨rfl, p1, ha1⟩
  have ha2 := ha0.trans ha1
  have HP := hide p1
  clear p1 ha0 ha1 HC o
  go_wp2_with fail
  go_ret
  exact ⟨rfl, HP.out, ha2⟩
set_option maxHeartbeats 800000 in
theorem heldBigInt_any (w : World) (s : Bool) (A : Option Addr) (n c k B : Nat) (hB : B ≤ w.heap.size) (hx : Rd w B A (iv (marksI k n))) (hl : n ≤ 1000000000) (hk : k ≤ 1000000000) :
    Calls Tryz.prog 126 #[.agg #[.bool s, .slice A n c], .int .i64 k] w fun e w' => e = .returned (.int .i64 ((k + n : Nat) : Int)) ∧ Below w.heap.size w w' := by
  have hb0 := below_new w (.cells #[.bool s, .slice A n c] 25)
  have HC := hide (heldIntS_any A n c k B _ (hx.below (hb0.mono hB)) hl hk)
  obtain ⟨K, hK⟩ : ∃ K : Nat, K = k + n := ⟨_, rfl⟩
  rw [← hK] at HC ⊢
  have hneg : ¬ (K : Int) < 0 := by omega
  clear hK hx
  go_enter Tryz.func126, Tryz.ntmps126
  go_wp2_with fail
  refine HC.out.mono ?_
  rintro e w1 ⟨rfl, rfl⟩
  go_wp2_with fail
  go_ret
  exact ⟨rfl, hb0⟩
end Go.Proofs.YtnbaookdeijhhaaGreatDoor

/-
  The laws' helpers for fractions: szRat, toRat, eqRat, markRat, heldRat: contracts.
-/



namespace Go.Proofs.YtnbaookdeijhhaaGreatDoor
open Go.RowKit
set_option linter.unusedVariables false
/-- two lists of the call's own, in stretches apart, all from block lo up to hi -/
def PairH (w : World) (lo hi : Nat) (E : TypeId) (v1 : Value) (n1 : Nat) (X1 : List Value) (v2 : Value) (n2 : Nat) (X2 : List Value) : Prop :=
  ∃ l1 h1 l2 h2, Own w l1 h1 E v1 n1 X1 ∧ Own w l2 h2 E v2 n2 X2 ∧ lo ≤ l1 ∧ lo ≤ l2 ∧ h1 ≤ hi ∧ h2 ≤ hi ∧ (h1 ≤ l2 ∨ h2 ≤ l1)
def BothH (w : World) (lo hi : Nat) (E : TypeId) (v1 : Value) (n1 : Nat) (X1 : List Value) (v2 : Value) (n2 : Nat) (X2 : List Value) : Prop :=
  Own w lo hi E v1 n1 X1 ∧ Own w lo hi E v2 n2 X2
section
variable {w w' : World} {lo hi lo' hi' n1 n2 B c1 c2 : Nat} {E : TypeId} {v1 v2 : Value} {X1 X2 : List Value} {A1 A2 : Option Addr}
theorem PairH.below (h : PairH w lo hi E v1 n1 X1 v2 n2 X2) (hb : Below B w w') (hh : hi ≤ B) : PairH w' lo hi E v1 n1 X1 v2 n2 X2 := by
  obtain ⟨l1, h1, l2, h2, o1, o2, a, b, c, d, e⟩ := h
  exact ⟨l1, h1, l2, h2, o1.below hb (by omega), o2.below hb (by omega), a, b, c, d, e⟩
theorem BothH.below (h : BothH w lo hi E v1 n1 X1 v2 n2 X2) (hb : Below B w w') (hh : hi ≤ B) : BothH w' lo hi E v1 n1 X1 v2 n2 X2 := ⟨h.1.below hb hh, h.2.below hb hh⟩
theorem PairH.aside (h : PairH w lo hi E v1 n1 X1 v2 n2 X2) (ha : Aside lo' hi' w w') (hd : hi ≤ lo' ∨ hi' ≤ lo) : PairH w' lo hi E v1 n1 X1 v2 n2 X2 := by
  obtain ⟨l1, h1, l2, h2, o1, o2, a, b, c, d, e⟩ := h
  exact ⟨l1, h1, l2, h2, o1.aside ha (by omega), o2.aside ha (by omega), a, b, c, d, e⟩
theorem BothH.aside (h : BothH w lo hi E v1 n1 X1 v2 n2 X2) (ha : Aside lo' hi' w w') (hd : hi ≤ lo' ∨ hi' ≤ lo) : BothH w' lo hi E v1 n1 X1 v2 n2 X2 := ⟨h.1.aside ha hd, h.2.aside ha hd⟩
theorem PairH.form (h : PairH w lo hi E v1 n1 X1 v2 n2 X2) : ∃ A1 c1 A2 c2, v1 = .slice A1 n1 c1 ∧ v2 = .slice A2 n2 c2 := by
  obtain ⟨l1, h1, l2, h2, o1, o2, _⟩ := h
  obtain ⟨A1, c1, e1⟩ := o1.form
  obtain ⟨A2, c2, e2⟩ := o2.form
  exact ⟨A1, c1, A2, c2, e1, e2⟩
theorem BothH.form (h : BothH w lo hi E v1 n1 X1 v2 n2 X2) : ∃ A1 c1 A2 c2, v1 = .slice A1 n1 c1 ∧ v2 = .slice A2 n2 c2 := by
  obtain ⟨A1, c1, e1⟩ := h.1.form
  obtain ⟨A2, c2, e2⟩ := h.2.form
  exact ⟨A1, c1, A2, c2, e1, e2⟩
end
set_option maxHeartbeats 800000 in
theorem szRat_any (w : World) (s : Bool) (A : Option Addr) (n c : Nat) (D : Option Addr) (m d : Nat) (k : Nat) (hn : n ≤ 9223372036854775807) (hm : m ≤ 9223372036854775807) (hk : k ≤ 1000000000000) :
    Calls Tryz.prog 67 #[.agg #[.bool s, .slice A n c, .slice D m d], .int .i64 k] w fun e w' => e = .returned (.int .i64 (leftI k (n + m))) ∧ Below w.heap.size w w' := by
  have hb0 := below_new w (.cells #[.bool s, .slice A n c, .slice D m d] 56)
  have k0 := Box.last w 56 #[.bool s, .slice A n c, .slice D m d] rfl
  have HC := hide (szBigInt_any (w.alloc (.cells #[.bool s, .slice A n c, .slice D m d] 56)) s A n c k hn hk)
  by_cases h : n ≤ k
  · obtain ⟨r, hr⟩ : ∃ r : Nat, r + n = k := ⟨k - n, by omega⟩
    have e1 : leftI k n = (r : Int) := by rw [leftI, if_pos h]; omega
    rw [e1] at HC
    have hng : ¬ (r : Int) < 0 := by omega
    by_cases h2 : m ≤ r
    · have e2 : leftI k (n + m) = (if m ≤ r then (r : Int) - m else -1) := by rw [leftI, if_pos (by omega), if_pos h2]; omega
      have hn2 : ¬ (r : Int) - (m : Int) < 0 := by omega
      have HC2 := hide (fun (W : World) => szIntS_any W D m d r hm (by omega))
      rw [e2]
      clear e2 e1 hr h
      rw [if_pos h2] at HC2 ⊢
      go_enter Tryz.func67, Tryz.ntmps67
      go_wp2_with fail
      refine HC.out.mono ?_
      rintro e w1 ⟨rfl, hb1⟩
      obtain ⟨a0, a1, a2⟩ := (k0.below hb1 k0.lt).cells3
      have hb1' := below_then hb0 hb1
      go_wp2_with fail
      refine (HC2.out w1).mono ?_
      rintro e w2 ⟨rfl, rfl⟩
      go_wp2_with fail
      go_ret
      exact ⟨rfl, hb1'⟩
    · have e2 : leftI k (n + m) = (if m ≤ r then (r : Int) - m else -1) := by rw [leftI, if_neg (by omega), if_neg h2]
      have HC2 := hide (fun (W : World) => szIntS_any W D m d r hm (by omega))
      rw [e2]
      clear e2 e1 hr h
      rw [if_neg h2] at HC2 ⊢
      go_enter Tryz.func67, Tryz.ntmps67
      go_wp2_with fail
      refine HC.out.mono ?_
      rintro e w1 ⟨rfl, hb1⟩
      obtain ⟨a0, a1, a2⟩ := (k0.below hb1 k0.lt).cells3
      have hb1' := below_then hb0 hb1
      go_wp2_with fail
      refine (HC2.out w1).mono ?_
      rintro e w2 ⟨rfl, rfl⟩
      go_wp2_with fail
      go_ret
      exact ⟨rfl, hb1'⟩
  · have e1 : leftI k n = -1 := if_neg h
    have e2 : leftI k (n + m) = -1 := if_neg (by omega)
    rw [e1] at HC
    rw [e2]
    clear e1 e2
    go_enter Tryz.func67, Tryz.ntmps67
    go_wp2_with fail
    refine HC.out.mono ?_
    rintro e w1 ⟨rfl, hb1⟩
    have hb1' := below_then hb0 hb1
    go_wp2_with fail
    go_ret
    exact ⟨rfl, hb1'⟩
set_option maxRecDepth 100000 in
set_option maxHeartbeats 1600000 in
theorem toRat_any (w : World) (B : Nat) (hB : B ≤ w.heap.size) (s : Bool) (A : Option Addr) (n c : Nat) (xs : List Int) (Rx : RdI w B A n xs) (D : Option Addr) (m k : Nat) (ds : List Int) (Rd' : RdI w B D m ds) :
    Calls Tryz.prog 70 #[.agg #[.bool s, .slice A n c, .slice D m k]] w fun e w' => ∃ g1 g2, e = .returned (.agg #[.bool s, .slice (some ⟨g1, 0, none⟩) n n, .slice (some ⟨g2, 0, none⟩) m m]) ∧ PairH w' w.heap.size w'.heap.size 3 (.slice (some ⟨g1, 0, none⟩) n n) n (iv xs) (.slice (some ⟨g2, 0, none⟩) m m) m (iv ds) ∧ Below w.heap.size w w' := by
  have hln := Rx.2.2.1
  have hlm := Rd'.2.2.1
  obtain ⟨W0, hW0⟩ : ∃ W0, W0 = (((w.alloc (.cells #[.bool s, .slice A n c, .slice D m k] 56)).alloc (.cells #[.bool false, .slice none 0 0, .slice none 0 0] 27)).alloc (.cells #[.bool false, .slice none 0 0, .slice none 0 0] 27)) := ⟨_, rfl⟩
  have hb0 : Below w.heap.size w W0 := by rw [hW0]; exact below_alloc (below_alloc (below_new _ _) _) _
  have kx : Box W0 (w.heap.size) 56 #[.bool s, .slice A n c, .slice D m k] := by rw [hW0]; exact ((Box.last _ _ _ rfl).alloc _).alloc _
  have kr : Box W0 (w.heap.size + 1) 27 #[.bool false, .slice none 0 0, .slice none 0 0] := by rw [hW0]; exact (Box.last _ _ _ (alloc_size _ _).symm).alloc _
  have ko : Box W0 (w.heap.size + 2) 27 #[.bool false, .slice none 0 0, .slice none 0 0] := by rw [hW0]; exact Box.last _ _ _ (by rw [alloc_size, alloc_size])
  have hs0 : W0.heap.size = w.heap.size + 3 := by rw [hW0, alloc_size, alloc_size, alloc_size]
  go_enter Tryz.func70, Tryz.ntmps70
  go_upto_region 2 with fail
  rw [← hW0]
  clear hW0
  obtain ⟨a0, a1, a2⟩ := kx.cells3
  go_wp2_with fail
  refine (toBigInt_any W0 B (by omega) s A n c xs (Rx.below (hb0.mono hB))).mono ?_
  rintro e w1 ⟨g1, rfl, o1, hb1⟩
  have hs1 := hb1.size
  have kx1 := kx.below hb1 kx.lt
  have kr1 := kr.below hb1 kr.lt
  have ko1 := ko.below hb1 ko.lt
  have hb1' := below_then hb0 hb1
  clear a0 a1 a2 kx kr ko hb0 hb1
  obtain ⟨w2, hw2⟩ : ∃ x, x = (w1.setCell ⟨w.heap.size + 2, 0, none⟩ (.bool s)).setCell ⟨w.heap.size + 2, 1, none⟩ (.slice (some ⟨g1, 0, none⟩) n n) := ⟨_, rfl⟩
  have ko2 : Box w2 (w.heap.size + 2) 27 #[.bool s, .slice (some ⟨g1, 0, none⟩) n n, .slice none 0 0] := by rw [hw2]; exact (ko1.set 0 _).set 1 _
  have kx2 : Box w2 w.heap.size 56 #[.bool s, .slice A n c, .slice D m k] := by rw [hw2]; exact (kx1.setv (by omega) 0 _).setv (by omega) 1 _
  have kr2 : Box w2 (w.heap.size + 1) 27 #[.bool false, .slice none 0 0, .slice none 0 0] := by rw [hw2]; exact (kr1.setv (by omega) 0 _).setv (by omega) 1 _
  have o2 : Own w2 W0.heap.size w1.heap.size 3 (.slice (some ⟨g1, 0, none⟩) n n) n (iv xs) := by rw [hw2]; exact (o1.setv (.inl (by omega)) 0 _).setv (.inl (by omega)) 1 _
  have hs2 : w2.heap.size = w1.heap.size := by rw [hw2, setCell_size, setCell_size]
  have hb2' : Below w.heap.size w w2 := by rw [hw2]; exact below_set2 hb1' (by omega) _ _
  obtain ⟨y0, y1, y2, y3, y4, y5⟩ := ko1.facts3
  clear o1 kx1 kr1 hb1'
  go_upto_region 3 with fail
  rw [← hw2]
  clear hw2 y0 y1 y2 y3 y4 y5 ko1
  obtain ⟨a0, a1, a2⟩ := kx2.cells3
  go_wp2_with fail
  refine (toIntS_any D m k B ds w2 Rd'.1 (Rd'.below (hb2'.mono hB)).2.1 (by omega) (by omega)).mono ?_
  rintro e w3 ⟨g2, rfl, q3, hb3⟩
  have o3 := Own.of q3
  have hs3 := hb3.size
  have kr3 := kr2.below hb3 kr2.lt
  have ko3 := ko2.below hb3 ko2.lt
  have hb3' := below_then hb2' hb3
  have o2' := o2.below hb3 (by omega)
  clear a0 a1 a2 kx2 kr2 ko2 hb2' hb3 q3 o2
  obtain ⟨w4, hw4⟩ : ∃ x, x = w3.setCell ⟨w.heap.size + 2, 2, none⟩ (.slice (some ⟨g2, 0, none⟩) m m) := ⟨_, rfl⟩
  have ko4 : Box w4 (w.heap.size + 2) 27 #[.bool s, .slice (some ⟨g1, 0, none⟩) n n, .slice (some ⟨g2, 0, none⟩) m m] := by rw [hw4]; exact ko3.set 2 _
  have kr4 : Box w4 (w.heap.size + 1) 27 #[.bool false, .slice none 0 0, .slice none 0 0] := by rw [hw4]; exact kr3.setv (by omega) 2 _
  have P4 : PairH w4 W0.heap.size w4.heap.size 3 (.slice (some ⟨g1, 0, none⟩) n n) n (iv xs) (.slice (some ⟨g2, 0, none⟩) m m) m (iv ds) := by rw [hw4]; exact ⟨_, _, _, _, o2'.setv (.inl (by omega)) 2 _, o3.setv (.inl (by omega)) 2 _, Nat.le_refl _, by omega, by rw [setCell_size]; omega, by rw [setCell_size]; exact Nat.le_refl _, .inl (by omega)⟩
  have hb4' : Below w.heap.size w w4 := by rw [hw4]; exact hb3'.setCell (p := ⟨w.heap.size + 2, 2, none⟩) (show w.heap.size ≤ w.heap.size + 2 by omega) _
  obtain ⟨y0, y1, y2, y3, y4, y5⟩ := ko3.facts3
  clear o2' o3 kr3 hb3'
  go_upto_region 4 with fail
  rw [← hw4]
  clear hw4 y0 y1 y2 y3 y4 y5 ko3
  obtain ⟨a0, a1, a2⟩ := ko4.cells3
  obtain ⟨z0, z1, z2, z3, z4, z5⟩ := kr4.facts3
  have HO : Hid (Box (((w4.setCell ⟨w.heap.size + 1, 0, none⟩ (.bool s)).setCell ⟨w.heap.size + 1, 1, none⟩ (.slice (some ⟨g1, 0, none⟩) n n)).setCell ⟨w.heap.size + 1, 2, none⟩ (.slice (some ⟨g2, 0, none⟩) m m)) (w.heap.size + 1) 27 #[.bool s, .slice (some ⟨g1, 0, none⟩) n n, .slice (some ⟨g2, 0, none⟩) m m] ∧ PairH (((w4.setCell ⟨w.heap.size + 1, 0, none⟩ (.bool s)).setCell ⟨w.heap.size + 1, 1, none⟩ (.slice (some ⟨g1, 0, none⟩) n n)).setCell ⟨w.heap.size + 1, 2, none⟩ (.slice (some ⟨g2, 0, none⟩) m m)) w.heap.size (((w4.setCell ⟨w.heap.size + 1, 0, none⟩ (.bool s)).setCell ⟨w.heap.size + 1, 1, none⟩ (.slice (some ⟨g1, 0, none⟩) n n)).setCell ⟨w.heap.size + 1, 2, none⟩ (.slice (some ⟨g2, 0, none⟩) m m)).heap.size 3 (.slice (some ⟨g1, 0, none⟩) n n) n (iv xs) (.slice (some ⟨g2, 0, none⟩) m m) m (iv ds) ∧ Below w.heap.size w (((w4.setCell ⟨w.heap.size + 1, 0, none⟩ (.bool s)).setCell ⟨w.heap.size + 1, 1, none⟩ (.slice (some ⟨g1, 0, none⟩) n n)).setCell ⟨w.heap.size + 1, 2, none⟩ (.slice (some ⟨g2, 0, none⟩) m m))) := by
    obtain ⟨l1, h1, l2, h2, p1, p2, ha, hb, hc, hd, he⟩ := P4
    exact ⟨kr4.set3 _ _ _, ⟨l1, h1, l2, h2, p1.setv3 (.inl (by omega)) _ _ _, p2.setv3 (.inl (by omega)) _ _ _, by omega, by omega, by rw [setCell3_size]; omega, by rw [setCell3_size]; omega, he⟩, below_set3 hb4' (by omega) _ _ _⟩
  clear P4 kr4 hb4' ko4
  go_wp2_with fail
  refine bodyPost_ret (results_cell_row rfl _ _ (w.heap.size + 1) _ #[.bool s, .slice (some ⟨g1, 0, none⟩) n n, .slice (some ⟨g2, 0, none⟩) m m] (0, 0) _ rfl HO.out.1 Tryz.underlying27 rfl Tryz.sizeRat) rfl ?_
  exact ⟨_, _, rfl, HO.out.2.1, HO.out.2.2⟩
set_option maxRecDepth 100000 in
set_option maxHeartbeats 800000 in
theorem eqRat_any (w : World) (B : Nat) (hB : B ≤ w.heap.size) (s : Bool) (A A' : Option Addr) (n c c' : Nat) (xs : List Int) (hn : xs.length = n) (hx : Rd w B A (iv xs)) (hy : Rd w B A' (iv xs)) (D D' : Option Addr) (m d d' : Nat) (ds : List Int) (hm : ds.length = m) (hu : Rd w B D (iv ds)) (hv : Rd w B D' (iv ds)) (hl : n ≤ 1000000000) (hl' : m ≤ 1000000000) :
    Calls Tryz.prog 71 #[.agg #[.bool s, .slice A n c, .slice D m d], .agg #[.bool s, .slice A' n c', .slice D' m d']] w fun e w' => e = .returned (.bool true) ∧ Below w.heap.size w w' := by
  obtain ⟨W0, hW0⟩ : ∃ W0, W0 = (w.alloc (.cells #[.bool s, .slice A n c, .slice D m d] 27)).alloc (.cells #[.bool s, .slice A' n c', .slice D' m d'] 27) := ⟨_, rfl⟩
  have hb0 : Below w.heap.size w W0 := by rw [hW0]; exact below_alloc (below_new _ _) _
  have kx : Box W0 w.heap.size 27 #[.bool s, .slice A n c, .slice D m d] := by rw [hW0]; exact (Box.last _ _ _ rfl).alloc _
  have ky : Box W0 (w.heap.size + 1) 27 #[.bool s, .slice A' n c', .slice D' m d'] := by rw [hW0]; exact Box.last _ _ _ (alloc_size _ _).symm
  have hs0 := hb0.size
  have HC1 := hide (eqBigInt_any W0 B (by omega) s A A' n c c' xs hn (hx.below (hb0.mono hB)) (hy.below (hb0.mono hB)) hl)
  have HC2 := hide (fun (W : World) (h : Below W0.heap.size W0 W) => eqIntS_below D D' m m d d' ds ds B W hm hm ((hu.below (hb0.mono hB)).below (h.mono (by omega))) ((hv.below (hb0.mono hB)).below (h.mono (by omega))) (by unfold maxLen; omega) (by unfold maxLen; omega) true (decide_eq_true rfl))
  clear hx hy hu hv
  obtain ⟨a0, a1, a2⟩ := kx.cells3
  obtain ⟨b0, b1, b2⟩ := ky.cells3
  go_enter Tryz.func71, Tryz.ntmps71
  go_upto_region 1 with fail
  rw [← hW0]
  clear hW0
  go_wp2_with fail
  refine HC1.out.mono ?_
  rintro e w1 ⟨rfl, hb1⟩
  have hb1' := below_then hb0 hb1
  have HC3 := hide (HC2.out _ hb1)
  have kx1 := kx.below hb1 kx.lt
  have ky1 := ky.below hb1 ky.lt
  clear a0 a1 a2 b0 b1 b2 kx ky hb0 hb1 HC1 HC2
  obtain ⟨a0, a1, a2⟩ := kx1.cells3
  obtain ⟨b0, b1, b2⟩ := ky1.cells3
  go_wp2_with fail
  refine HC3.out.mono ?_
  rintro e w2 ⟨rfl, hb2⟩
  have hb2' := below_then hb1' hb2
  go_wp2_with fail
  go_ret
  exact ⟨rfl, hb2'⟩
set_option maxRecDepth 100000 in
set_option maxHeartbeats 800000 in
theorem markRat_own (w : World) (s : Bool) (A : Option Addr) (n c : Nat) (D : Option Addr) (m d k E lo hi : Nat) (X1 X2 : List Value) (o : PairH w lo hi E (.slice A n c) n X1 (.slice D m d) m X2) (hhi : hi ≤ w.heap.size) (hl : n ≤ 100000000) (hl' : m ≤ 100000000) (hk : k ≤ 100000000) :
    Calls Tryz.prog 74 #[.agg #[.bool s, .slice A n c, .slice D m d], .int .i64 k] w fun e w' => e = .returned (.int .i64 ((k + (n + m) : Nat) : Int)) ∧ PairH w' lo hi E (.slice A n c) n (iv (marksI k n)) (.slice D m d) m (iv (marksI (k + n) m)) ∧ Aside lo hi w w' := by
  obtain ⟨l1, h1, l2, h2, p1, p2, a1, a2, a3, a4, hdis⟩ := o
  have ha0 := aside_new w lo hi (.cells #[.bool s, .slice A n c, .slice D m d] 27)
  have hb0 := below_new w (.cells #[.bool s, .slice A n c, .slice D m d] 27)
  have k0 := Box.last w 27 #[.bool s, .slice A n c, .slice D m d] rfl
  have hsz := alloc_size w (.cells #[.bool s, .slice A n c, .slice D m d] 27)
  have q1 := p1.below hb0 (by omega)
  have q2 := p2.below hb0 (by omega)
  have HC1 := hide (markBigInt_own (w.alloc (.cells #[.bool s, .slice A n c, .slice D m d] 27)) s A n c k E l1 h1 X1 q1 (by omega) (by omega) (by omega))
  obtain ⟨K, hK⟩ : ∃ K : Nat, K = k + n := ⟨_, rfl⟩
  have e3 : ((k + (n + m) : Nat) : Int) = ((K + m : Nat) : Int) := by omega
  rw [e3, ← hK]
  rw [← hK] at HC1
  have hKb : K ≤ 1000000000 := by omega
  clear hK e3 p1 p2
  go_enter Tryz.func74, Tryz.ntmps74
  go_wp2_with fail
  refine HC1.out.mono ?_
  rintro e w1 ⟨rfl, r1, ha1⟩
  have r2 := q2.aside ha1 (by omega)
  have k1 := k0.aside ha1 (.inr (by omega))
  have hs1 := ha1.size
  have ha01 := ha0.trans (ha1.wide a1 a3)
  obtain ⟨t0, t1, t2⟩ := k1.cells3
  have HC2 := hide (markIntS_own (.slice D m d) m K E l2 h2 X2 w1 r2 (by omega) (by omega))
  have HR1 := hide r1
  clear k0 k1 q1 q2 r1 r2 ha0 ha1 HC1
  go_wp2_with fail
  refine HC2.out.mono ?_
  rintro e w2 ⟨rfl, r3, ha2⟩
  have HP := hide (⟨l1, h1, l2, h2, HR1.out.aside ha2 (by omega), r3, a1, a2, a3, a4, hdis⟩ : PairH w2 lo hi E (.slice A n c) n (iv (marksI k n)) (.slice D m d) m (iv (marksI K m)))
  have ha3 := ha01.trans (ha2.wide a2 a4)
  clear r3 ha2 HR1 t0 t1 t2
  go_wp2_with fail
  go_ret
  exact ⟨rfl, HP.out, ha3⟩
set_option maxRecDepth 100000 in
set_option maxHeartbeats 800000 in
theorem heldRat_any (w : World) (s : Bool) (A : Option Addr) (n c : Nat) (D : Option Addr) (m d k B : Nat) (hB : B ≤ w.heap.size) (hx : Rd w B A (iv (marksI k n))) (hy : Rd w B D (iv (marksI (k + n) m))) (hl : n ≤ 100000000) (hl' : m ≤ 100000000) (hk : k ≤ 100000000) :
    Calls Tryz.prog 75 #[.agg #[.bool s, .slice A n c, .slice D m d], .int .i64 k] w fun e w' => e = .returned (.int .i64 ((k + (n + m) : Nat) : Int)) ∧ Below w.heap.size w w' := by
  have hb0 := below_new w (.cells #[.bool s, .slice A n c, .slice D m d] 27)
  have k0 := Box.last w 27 #[.bool s, .slice A n c, .slice D m d] rfl
  have hsz := alloc_size w (.cells #[.bool s, .slice A n c, .slice D m d] 27)
  have HC1 := hide (heldBigInt_any _ s A n c k B (by omega) (hx.below (hb0.mono hB)) (by omega) (by omega))
  obtain ⟨K, hK⟩ : ∃ K : Nat, K = k + n := ⟨_, rfl⟩
  obtain ⟨J, hJ⟩ : ∃ J : Nat, J = K + m := ⟨_, rfl⟩
  have e3 : ((k + (n + m) : Nat) : Int) = (J : Int) := by omega
  rw [e3]
  rw [← hK] at HC1 hy
  have HC2 := hide (fun (W : World) (h : Below w.heap.size w W) => heldIntS_any D m d K B W (hy.below (h.mono hB)) (by omega) (by omega))
  rw [← hJ] at HC2
  have hneg : ¬ (K : Int) < 0 := by omega
  have hneg2 : ¬ (J : Int) < 0 := by omega
  clear hK hJ e3 hx hy
  go_enter Tryz.func75, Tryz.ntmps75
  go_wp2_with fail
  refine HC1.out.mono ?_
  rintro e w1 ⟨rfl, hb1⟩
  have hb1' := below_then hb0 hb1
  obtain ⟨t0, t1, t2⟩ := (k0.below hb1 k0.lt).cells3
  have HC3 := hide (HC2.out w1 hb1')
  clear HC1 HC2 k0 hb1 hb0
  go_wp2_with fail
  refine HC3.out.mono ?_
  rintro e w2 ⟨rfl, rfl⟩
  go_wp2_with fail
  go_ret
  exact ⟨rfl, hb1'⟩
end Go.Proofs.YtnbaookdeijhhaaGreatDoor
