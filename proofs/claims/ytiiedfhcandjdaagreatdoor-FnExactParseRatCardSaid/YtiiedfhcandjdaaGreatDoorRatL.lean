/-
  The laws' helpers for fractions: szRat, toRat, eqRat, markRat, heldRat: contracts.
-/
import Derived.Test.YtiiedfhcandjdaaGreatDoorBigL
import Derived.Test.YtiiedfhcandjdaaGreatDoorPB
import Derived.Deep.CutRange
namespace Go.Proofs.YtiiedfhcandjdaaGreatDoor
open Go.RowKit
set_option linter.unusedVariables false
/-- two lists of the call's own, in stretches apart, all from block lo up to hi -/
def PairH (w : World) (lo hi : Nat) (E : TypeId) (v1 : Value) (n1 : Nat) (X1 : List Value) (v2 : Value) (n2 : Nat) (X2 : List Value) : Prop :=
  ∃ l1 h1 l2 h2, Own w l1 h1 E v1 n1 X1 ∧ Own w l2 h2 E v2 n2 X2 ∧ lo ≤ l1 ∧ lo ≤ l2 ∧ h1 ≤ hi ∧ h2 ≤ hi ∧ (h1 ≤ l2 ∨ h2 ≤ l1)
def BothH (w : World) (lo hi : Nat) (E : TypeId) (v1 : Value) (n1 : Nat) (X1 : List Value) (v2 : Value) (n2 : Nat) (X2 : List Value) : Prop :=
  Own w lo hi E v1 n1 X1 ∧ Own w lo hi E v2 n2 X2
section
variable {w w' : World} {lo hi lo' hi' n1 n2 B c1 c2 : Nat} {E : TypeId} {v1 v2 : Value} {X1 X2 : List Value} {A1 A2 : Option Addr}
theorem PairH.both (h : PairH w lo hi E v1 n1 X1 v2 n2 X2) : BothH w lo hi E v1 n1 X1 v2 n2 X2 := by
  obtain ⟨l1, h1, l2, h2, o1, o2, a, b, c, d, _⟩ := h
  exact ⟨o1.wider a c, o2.wider b d⟩
theorem PairH.below (h : PairH w lo hi E v1 n1 X1 v2 n2 X2) (hb : Below B w w') (hh : hi ≤ B) : PairH w' lo hi E v1 n1 X1 v2 n2 X2 := by
  obtain ⟨l1, h1, l2, h2, o1, o2, a, b, c, d, e⟩ := h
  exact ⟨l1, h1, l2, h2, o1.below hb (by omega), o2.below hb (by omega), a, b, c, d, e⟩
theorem BothH.below (h : BothH w lo hi E v1 n1 X1 v2 n2 X2) (hb : Below B w w') (hh : hi ≤ B) : BothH w' lo hi E v1 n1 X1 v2 n2 X2 := ⟨h.1.below hb hh, h.2.below hb hh⟩
theorem PairH.aside (h : PairH w lo hi E v1 n1 X1 v2 n2 X2) (ha : Aside lo' hi' w w') (hd : hi ≤ lo' ∨ hi' ≤ lo) : PairH w' lo hi E v1 n1 X1 v2 n2 X2 := by
  obtain ⟨l1, h1, l2, h2, o1, o2, a, b, c, d, e⟩ := h
  exact ⟨l1, h1, l2, h2, o1.aside ha (by omega), o2.aside ha (by omega), a, b, c, d, e⟩
theorem BothH.aside (h : BothH w lo hi E v1 n1 X1 v2 n2 X2) (ha : Aside lo' hi' w w') (hd : hi ≤ lo' ∨ hi' ≤ lo) : BothH w' lo hi E v1 n1 X1 v2 n2 X2 := ⟨h.1.aside ha hd, h.2.aside ha hd⟩
theorem PairH.form (h : PairH w lo hi E v1 n1 X1 v2 n2 X2) : ∃ A1 c1 A2 c2, v1 = .slice A1 n1 c1 ∧ v2 = .slice A2 n2 c2 := by
  obtain ⟨l1, h1, l2, h2, o1, o2, _⟩ := h
  obtain ⟨A1, c1, e1⟩ := o1.form
  obtain ⟨A2, c2, e2⟩ := o2.form
  exact ⟨A1, c1, A2, c2, e1, e2⟩
theorem BothH.form (h : BothH w lo hi E v1 n1 X1 v2 n2 X2) : ∃ A1 c1 A2 c2, v1 = .slice A1 n1 c1 ∧ v2 = .slice A2 n2 c2 := by
  obtain ⟨A1, c1, e1⟩ := h.1.form
  obtain ⟨A2, c2, e2⟩ := h.2.form
  exact ⟨A1, c1, A2, c2, e1, e2⟩
theorem BothH.rd1 (h : BothH w lo hi E (.slice A1 n1 c1) n1 X1 (.slice A2 n2 c2) n2 X2) : Rd w w.heap.size A1 X1 := h.1.rd
theorem BothH.rd2 (h : BothH w lo hi E (.slice A1 n1 c1) n1 X1 (.slice A2 n2 c2) n2 X2) : Rd w w.heap.size A2 X2 := h.2.rd
theorem PairH.rd1 (h : PairH w lo hi E (.slice A1 n1 c1) n1 X1 (.slice A2 n2 c2) n2 X2) : Rd w w.heap.size A1 X1 := h.both.rd1
theorem PairH.rd2 (h : PairH w lo hi E (.slice A1 n1 c1) n1 X1 (.slice A2 n2 c2) n2 X2) : Rd w w.heap.size A2 X2 := h.both.rd2
end
theorem Pair.hull {w : World} {B : Nat} {E : TypeId} {v1 v2 : Value} {xs ys : List Int} (h : Pair w B E v1 xs v2 ys) : PairH w B w.heap.size E v1 xs.length (iv xs) v2 ys.length (iv ys) := h
set_option maxRecDepth 100000 in
set_option maxHeartbeats 800000 in
theorem eqRat_any (w : World) (B : Nat) (hB : B ≤ w.heap.size) (s : Bool) (A A' : Option Addr) (n c c' : Nat) (xs : List Int) (hn : xs.length = n) (hx : Rd w B A (iv xs)) (hy : Rd w B A' (iv xs)) (D D' : Option Addr) (m d d' : Nat) (ds : List Int) (hm : ds.length = m) (hu : Rd w B D (iv ds)) (hv : Rd w B D' (iv ds)) (hl : n ≤ 1000000000) (hl' : m ≤ 1000000000) :
    Calls Tryz.prog 6 #[.agg #[.bool s, .slice A n c, .slice D m d], .agg #[.bool s, .slice A' n c', .slice D' m d']] w fun e w' => e = .returned (.bool true) ∧ Below w.heap.size w w' := by
  obtain ⟨W0, hW0⟩ : ∃ W0, W0 = (w.alloc (.cells #[.bool s, .slice A n c, .slice D m d] 26)).alloc (.cells #[.bool s, .slice A' n c', .slice D' m d'] 26) := ⟨_, rfl⟩
  have hb0 : Below w.heap.size w W0 := by rw [hW0]; exact below_alloc (below_new _ _) _
  have kx : Box W0 w.heap.size 26 #[.bool s, .slice A n c, .slice D m d] := by rw [hW0]; exact (Box.last _ _ _ rfl).alloc _
  have ky : Box W0 (w.heap.size + 1) 26 #[.bool s, .slice A' n c', .slice D' m d'] := by rw [hW0]; exact Box.last _ _ _ (alloc_size _ _).symm
  have hs0 := hb0.size
  have HC1 := hide (eqBigInt_any W0 B (by omega) s A A' n c c' xs hn (hx.below (hb0.mono hB)) (hy.below (hb0.mono hB)) hl)
  have HC2 := hide (fun (W : World) (h : Below W0.heap.size W0 W) => eqIntS_below D D' m m d d' ds ds B W hm hm ((hu.below (hb0.mono hB)).below (h.mono (by omega))) ((hv.below (hb0.mono hB)).below (h.mono (by omega))) (by unfold maxLen; omega) (by unfold maxLen; omega) true (decide_eq_true rfl))
  clear hx hy hu hv
  obtain ⟨a0, a1, a2⟩ := kx.cells3
  obtain ⟨b0, b1, b2⟩ := ky.cells3
  go_enter Tryz.func6, Tryz.ntmps6
  go_upto_region 1 with fail
  rw [← hW0]
  clear hW0
  go_wp2_with fail
  refine HC1.out.mono ?_
  rintro e w1 ⟨rfl, hb1⟩
  have hb1' := below_then hb0 hb1
  have HC3 := hide (HC2.out _ hb1)
  have kx1 := kx.below hb1 kx.lt
  have ky1 := ky.below hb1 ky.lt
  clear a0 a1 a2 b0 b1 b2 kx ky hb0 hb1 HC1 HC2
  obtain ⟨a0, a1, a2⟩ := kx1.cells3
  obtain ⟨b0, b1, b2⟩ := ky1.cells3
  go_wp2_with fail
  refine HC3.out.mono ?_
  rintro e w2 ⟨rfl, hb2⟩
  have hb2' := below_then hb1' hb2
  go_wp2_with fail
  go_ret
  exact ⟨rfl, hb2'⟩
set_option maxRecDepth 100000 in
set_option maxHeartbeats 800000 in
theorem markRat_own (w : World) (s : Bool) (A : Option Addr) (n c : Nat) (D : Option Addr) (m d k E lo hi : Nat) (X1 X2 : List Value) (o : PairH w lo hi E (.slice A n c) n X1 (.slice D m d) m X2) (hhi : hi ≤ w.heap.size) (hl : n ≤ 100000000) (hl' : m ≤ 100000000) (hk : k ≤ 100000000) :
    Calls Tryz.prog 7 #[.agg #[.bool s, .slice A n c, .slice D m d], .int .i64 k] w fun e w' => e = .returned (.int .i64 ((k + (n + m) : Nat) : Int)) ∧ PairH w' lo hi E (.slice A n c) n (iv (marksI k n)) (.slice D m d) m (iv (marksI (k + n) m)) ∧ Aside lo hi w w' := by
  obtain ⟨l1, h1, l2, h2, p1, p2, a1, a2, a3, a4, hdis⟩ := o
  have ha0 := aside_new w lo hi (.cells #[.bool s, .slice A n c, .slice D m d] 26)
  have hb0 := below_new w (.cells #[.bool s, .slice A n c, .slice D m d] 26)
  have k0 := Box.last w 26 #[.bool s, .slice A n c, .slice D m d] rfl
  have hsz := alloc_size w (.cells #[.bool s, .slice A n c, .slice D m d] 26)
  have q1 := p1.below hb0 (by omega)
  have q2 := p2.below hb0 (by omega)
  have HC1 := hide (markBigInt_own (w.alloc (.cells #[.bool s, .slice A n c, .slice D m d] 26)) s A n c k E l1 h1 X1 q1 (by omega) (by omega) (by omega))
  obtain ⟨K, hK⟩ : ∃ K : Nat, K = k + n := ⟨_, rfl⟩
  have e3 : ((k + (n + m) : Nat) : Int) = ((K + m : Nat) : Int) := by omega
  rw [e3, ← hK]
  rw [← hK] at HC1
  have hKb : K ≤ 1000000000 := by omega
  clear hK e3 p1 p2
  go_enter Tryz.func7, Tryz.ntmps7
  go_wp2_with fail
  refine HC1.out.mono ?_
  rintro e w1 ⟨rfl, r1, ha1⟩
  have r2 := q2.aside ha1 (by omega)
  have k1 := k0.aside ha1 (.inr (by omega))
  have hs1 := ha1.size
  have ha01 := ha0.trans (ha1.wide a1 a3)
  obtain ⟨t0, t1, t2⟩ := k1.cells3
  have HC2 := hide (markIntS_own (.slice D m d) m K E l2 h2 X2 w1 r2 (by omega) (by omega))
  have HR1 := hide r1
  clear k0 k1 q1 q2 r1 r2 ha0 ha1 HC1
  go_wp2_with fail
  refine HC2.out.mono ?_
  rintro e w2 ⟨rfl, r3, ha2⟩
  have HP := hide (⟨l1, h1, l2, h2, HR1.out.aside ha2 (by omega), r3, a1, a2, a3, a4, hdis⟩ : PairH w2 lo hi E (.slice A n c) n (iv (marksI k n)) (.slice D m d) m (iv (marksI K m)))
  have ha3 := ha01.trans (ha2.wide a2 a4)
  clear r3 ha2 HR1 t0 t1 t2
  go_wp2_with fail
  go_ret
  exact ⟨rfl, HP.out, ha3⟩
set_option maxRecDepth 100000 in
set_option maxHeartbeats 800000 in
theorem heldRat_any (w : World) (s : Bool) (A : Option Addr) (n c : Nat) (D : Option Addr) (m d k B : Nat) (hB : B ≤ w.heap.size) (hx : Rd w B A (iv (marksI k n))) (hy : Rd w B D (iv (marksI (k + n) m))) (hl : n ≤ 100000000) (hl' : m ≤ 100000000) (hk : k ≤ 100000000) :
    Calls Tryz.prog 8 #[.agg #[.bool s, .slice A n c, .slice D m d], .int .i64 k] w fun e w' => e = .returned (.int .i64 ((k + (n + m) : Nat) : Int)) ∧ Below w.heap.size w w' := by
  have hb0 := below_new w (.cells #[.bool s, .slice A n c, .slice D m d] 26)
  have k0 := Box.last w 26 #[.bool s, .slice A n c, .slice D m d] rfl
  have hsz := alloc_size w (.cells #[.bool s, .slice A n c, .slice D m d] 26)
  have HC1 := hide (heldBigInt_any _ s A n c k B (by omega) (hx.below (hb0.mono hB)) (by omega) (by omega))
  obtain ⟨K, hK⟩ : ∃ K : Nat, K = k + n := ⟨_, rfl⟩
  obtain ⟨J, hJ⟩ : ∃ J : Nat, J = K + m := ⟨_, rfl⟩
  have e3 : ((k + (n + m) : Nat) : Int) = (J : Int) := by omega
  rw [e3]
  rw [← hK] at HC1 hy
  have HC2 := hide (fun (W : World) (h : Below w.heap.size w W) => heldIntS_any D m d K B W (hy.below (h.mono hB)) (by omega) (by omega))
  rw [← hJ] at HC2
  have hneg : ¬ (K : Int) < 0 := by omega
  have hneg2 : ¬ (J : Int) < 0 := by omega
  clear hK hJ e3 hx hy
  go_enter Tryz.func8, Tryz.ntmps8
  go_wp2_with fail
  refine HC1.out.mono ?_
  rintro e w1 ⟨rfl, hb1⟩
  have hb1' := below_then hb0 hb1
  obtain ⟨t0, t1, t2⟩ := (k0.below hb1 k0.lt).cells3
  have HC3 := hide (HC2.out w1 hb1')
  clear HC1 HC2 k0 hb1 hb0
  go_wp2_with fail
  refine HC3.out.mono ?_
  rintro e w2 ⟨rfl, rfl⟩
  go_wp2_with fail
  go_ret
  exact ⟨rfl, hb1'⟩
end Go.Proofs.YtiiedfhcandjdaaGreatDoor
