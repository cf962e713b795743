/-
  The texts BigL, RatL, PtL, put together; each has its own heading below. No condition of ours.
-/
import Derived.Test.YtdcceppednngjaaGreatMarkI
import Derived.Test.YtdcceppednngjaaGreatPB
import Derived.Deep.CutRange
import Derived.Test.YtdcceppednngjaaGreatPT
/-
  The laws' helpers for big integers: szBigInt, toBigInt, eqBigInt, markBigInt, heldBigInt: contracts.
-/



namespace Go.Proofs.YtdcceppednngjaaGreat
open Go.RowKit
set_option linter.unusedVariables false

set_option maxHeartbeats 800000 in
theorem eqBigInt_any (w : World) (B : Nat) (hB : B ≤ w.heap.size) (s : Bool) (A A' : Option Addr) (n c c' : Nat) (xs : List Int) (hn : xs.length = n) (hx : Rd w B A (iv xs)) (hy : Rd w B A' (iv xs)) (hl : n ≤ 1000000000) :
    Calls Tryz.prog 25 #[.agg #[.bool s, .slice A n c], .agg #[.bool s, .slice A' n c']] w fun e w' => e = .returned (.bool true) ∧ Below w.heap.size w w' := by
  obtain ⟨W0, hW0⟩ : ∃ W0, W0 = (w.alloc (.cells #[.bool s, .slice A n c] 28)).alloc (.cells #[.bool s, .slice A' n c'] 28) := ⟨_, rfl⟩
  have hb0 : Below w.heap.size w W0 := by rw [hW0]; exact below_alloc (below_new _ _) _
  have HC := hide (eqIntS_below A A' n n c c' xs xs B W0 hn hn (hx.below (hb0.mono hB)) (hy.below (hb0.mono hB)) (by unfold maxLen; omega) (by unfold maxLen; omega) true (decide_eq_true rfl))
  have hss : (s != s) = false := by cases s <;> rfl
  clear hx hy
  go_enter Tryz.func25, Tryz.ntmps25
  go_wp2_with fail
  rw [← hW0]
  clear hW0
  refine HC.out.mono ?_
  rintro e w1 ⟨rfl, hb1⟩
  have hb1' := below_then hb0 hb1
  go_wp2_with fail
  go_ret
  exact ⟨rfl, hb1'⟩
theorem aside_new (w : World) (lo hi : Nat) (o : Obj) : Aside lo hi w (w.alloc o) :=
  ⟨rfl, rfl, rfl, by rw [alloc_size]; omega, fun k hk _ => by show (w.heap.push o)[k]? = _; rw [Array.getElem?_push, if_neg (by omega)]⟩
set_option maxHeartbeats 800000 in
theorem markBigInt_own (w : World) (s : Bool) (A : Option Addr) (n c k E lo hi : Nat) (xs : List Value) (o : Own w lo hi E (.slice A n c) n xs) (hhi : hi ≤ w.heap.size) (hl : n ≤ 1000000000) (hk : k ≤ 1000000000) :
    Calls Tryz.prog 27 #[.agg #[.bool s, .slice A n c], .int .i64 k] w fun e w' => e = .returned (.int .i64 ((k + n : Nat) : Int)) ∧ Own w' lo hi E (.slice A n c) n (iv (marksI k n)) ∧ Aside lo hi w w' := by
  have ha0 := aside_new w lo hi (.cells #[.bool s, .slice A n c] 28)
  have HC := hide (markIntS_own (.slice A n c) n k E lo hi xs _ (o.below (below_new w (.cells #[.bool s, .slice A n c] 28)) hhi) hl hk)
  go_enter Tryz.func27, Tryz.ntmps27
  go_wp2_with fail
  refine HC.out.mono ?_
  rintro e w1 ⟨rfl, p1, ha1⟩
  have ha2 := ha0.trans ha1
  have HP := hide p1
  clear p1 ha0 ha1 HC o
  go_wp2_with fail
  go_ret
  exact ⟨rfl, HP.out, ha2⟩
set_option maxHeartbeats 800000 in
theorem heldBigInt_any (w : World) (s : Bool) (A : Option Addr) (n c k B : Nat) (hB : B ≤ w.heap.size) (hx : Rd w B A (iv (marksI k n))) (hl : n ≤ 1000000000) (hk : k ≤ 1000000000) :
    Calls Tryz.prog 29 #[.agg #[.bool s, .slice A n c], .int .i64 k] w fun e w' => e = .returned (.int .i64 ((k + n : Nat) : Int)) ∧ Below w.heap.size w w' := by
  have hb0 := below_new w (.cells #[.bool s, .slice A n c] 28)
  have HC := hide (heldIntS_any A n c k B _ (hx.below (hb0.mono hB)) hl hk)
  obtain ⟨K, hK⟩ : ∃ K : Nat, K = k + n := ⟨_, rfl⟩
  rw [← hK] at HC ⊢
  have hneg : ¬ (K : Int) < 0 := by omega
  clear hK hx
  go_enter Tryz.func29, Tryz.ntmps29
  go_wp2_with fail
  refine HC.out.mono ?_
  rintro e w1 ⟨rfl, rfl⟩
  go_wp2_with fail
  go_ret
  exact ⟨rfl, hb0⟩
end Go.Proofs.YtdcceppednngjaaGreat

/-
  The laws' helpers for fractions: szRat, toRat, eqRat, markRat, heldRat: contracts.
-/



namespace Go.Proofs.YtdcceppednngjaaGreat
open Go.RowKit
set_option linter.unusedVariables false
/-- two lists of the call's own, in stretches apart, all from block lo up to hi -/
def PairH (w : World) (lo hi : Nat) (E : TypeId) (v1 : Value) (n1 : Nat) (X1 : List Value) (v2 : Value) (n2 : Nat) (X2 : List Value) : Prop :=
  ∃ l1 h1 l2 h2, Own w l1 h1 E v1 n1 X1 ∧ Own w l2 h2 E v2 n2 X2 ∧ lo ≤ l1 ∧ lo ≤ l2 ∧ h1 ≤ hi ∧ h2 ≤ hi ∧ (h1 ≤ l2 ∨ h2 ≤ l1)
def BothH (w : World) (lo hi : Nat) (E : TypeId) (v1 : Value) (n1 : Nat) (X1 : List Value) (v2 : Value) (n2 : Nat) (X2 : List Value) : Prop :=
  Own w lo hi E v1 n1 X1 ∧ Own w lo hi E v2 n2 X2
section
variable {w w' : World} {lo hi lo' hi' n1 n2 B c1 c2 : Nat} {E : TypeId} {v1 v2 : Value} {X1 X2 : List Value} {A1 A2 : Option Addr}
theorem PairH.both (h : PairH w lo hi E v1 n1 X1 v2 n2 X2) : BothH w lo hi E v1 n1 X1 v2 n2 X2 := by
  obtain ⟨l1, h1, l2, h2, o1, o2, a, b, c, d, _⟩ := h
  exact ⟨o1.wider a c, o2.wider b d⟩
theorem PairH.below (h : PairH w lo hi E v1 n1 X1 v2 n2 X2) (hb : Below B w w') (hh : hi ≤ B) : PairH w' lo hi E v1 n1 X1 v2 n2 X2 := by
  obtain ⟨l1, h1, l2, h2, o1, o2, a, b, c, d, e⟩ := h
  exact ⟨l1, h1, l2, h2, o1.below hb (by omega), o2.below hb (by omega), a, b, c, d, e⟩
theorem BothH.below (h : BothH w lo hi E v1 n1 X1 v2 n2 X2) (hb : Below B w w') (hh : hi ≤ B) : BothH w' lo hi E v1 n1 X1 v2 n2 X2 := ⟨h.1.below hb hh, h.2.below hb hh⟩
theorem PairH.aside (h : PairH w lo hi E v1 n1 X1 v2 n2 X2) (ha : Aside lo' hi' w w') (hd : hi ≤ lo' ∨ hi' ≤ lo) : PairH w' lo hi E v1 n1 X1 v2 n2 X2 := by
  obtain ⟨l1, h1, l2, h2, o1, o2, a, b, c, d, e⟩ := h
  exact ⟨l1, h1, l2, h2, o1.aside ha (by omega), o2.aside ha (by omega), a, b, c, d, e⟩
theorem BothH.aside (h : BothH w lo hi E v1 n1 X1 v2 n2 X2) (ha : Aside lo' hi' w w') (hd : hi ≤ lo' ∨ hi' ≤ lo) : BothH w' lo hi E v1 n1 X1 v2 n2 X2 := ⟨h.1.aside ha hd, h.2.aside ha hd⟩
theorem PairH.form (h : PairH w lo hi E v1 n1 X1 v2 n2 X2) : ∃ A1 c1 A2 c2, v1 = .slice A1 n1 c1 ∧ v2 = .slice A2 n2 c2 := by
  obtain ⟨l1, h1, l2, h2, o1, o2, _⟩ := h
  obtain ⟨A1, c1, e1⟩ := o1.form
  obtain ⟨A2, c2, e2⟩ := o2.form
  exact ⟨A1, c1, A2, c2, e1, e2⟩
theorem BothH.form (h : BothH w lo hi E v1 n1 X1 v2 n2 X2) : ∃ A1 c1 A2 c2, v1 = .slice A1 n1 c1 ∧ v2 = .slice A2 n2 c2 := by
  obtain ⟨A1, c1, e1⟩ := h.1.form
  obtain ⟨A2, c2, e2⟩ := h.2.form
  exact ⟨A1, c1, A2, c2, e1, e2⟩
end
set_option maxRecDepth 100000 in
set_option maxHeartbeats 800000 in
theorem eqRat_any (w : World) (B : Nat) (hB : B ≤ w.heap.size) (s : Bool) (A A' : Option Addr) (n c c' : Nat) (xs : List Int) (hn : xs.length = n) (hx : Rd w B A (iv xs)) (hy : Rd w B A' (iv xs)) (D D' : Option Addr) (m d d' : Nat) (ds : List Int) (hm : ds.length = m) (hu : Rd w B D (iv ds)) (hv : Rd w B D' (iv ds)) (hl : n ≤ 1000000000) (hl' : m ≤ 1000000000) :
    Calls Tryz.prog 8 #[.agg #[.bool s, .slice A n c, .slice D m d], .agg #[.bool s, .slice A' n c', .slice D' m d']] w fun e w' => e = .returned (.bool true) ∧ Below w.heap.size w w' := by
  obtain ⟨W0, hW0⟩ : ∃ W0, W0 = (w.alloc (.cells #[.bool s, .slice A n c, .slice D m d] 30)).alloc (.cells #[.bool s, .slice A' n c', .slice D' m d'] 30) := ⟨_, rfl⟩
  have hb0 : Below w.heap.size w W0 := by rw [hW0]; exact below_alloc (below_new _ _) _
  have kx : Box W0 w.heap.size 30 #[.bool s, .slice A n c, .slice D m d] := by rw [hW0]; exact (Box.last _ _ _ rfl).alloc _
  have ky : Box W0 (w.heap.size + 1) 30 #[.bool s, .slice A' n c', .slice D' m d'] := by rw [hW0]; exact Box.last _ _ _ (alloc_size _ _).symm
  have hs0 := hb0.size
  have HC1 := hide (eqBigInt_any W0 B (by omega) s A A' n c c' xs hn (hx.below (hb0.mono hB)) (hy.below (hb0.mono hB)) hl)
  have HC2 := hide (fun (W : World) (h : Below W0.heap.size W0 W) => eqIntS_below D D' m m d d' ds ds B W hm hm ((hu.below (hb0.mono hB)).below (h.mono (by omega))) ((hv.below (hb0.mono hB)).below (h.mono (by omega))) (by unfold maxLen; omega) (by unfold maxLen; omega) true (decide_eq_true rfl))
  clear hx hy hu hv
  obtain ⟨a0, a1, a2⟩ := kx.cells3
  obtain ⟨b0, b1, b2⟩ := ky.cells3
  go_enter Tryz.func8, Tryz.ntmps8
  go_upto_region 1 with fail
  rw [← hW0]
  clear hW0
  go_wp2_with fail
  refine HC1.out.mono ?_
  rintro e w1 ⟨rfl, hb1⟩
  have hb1' := below_then hb0 hb1
  have HC3 := hide (HC2.out _ hb1)
  have kx1 := kx.below hb1 kx.lt
  have ky1 := ky.below hb1 ky.lt
  clear a0 a1 a2 b0 b1 b2 kx ky hb0 hb1 HC1 HC2
  obtain ⟨a0, a1, a2⟩ := kx1.cells3
  obtain ⟨b0, b1, b2⟩ := ky1.cells3
  go_wp2_with fail
  refine HC3.out.mono ?_
  rintro e w2 ⟨rfl, hb2⟩
  have hb2' := below_then hb1' hb2
  go_wp2_with fail
  go_ret
  exact ⟨rfl, hb2'⟩
set_option maxRecDepth 100000 in
set_option maxHeartbeats 800000 in
theorem markRat_own (w : World) (s : Bool) (A : Option Addr) (n c : Nat) (D : Option Addr) (m d k E lo hi : Nat) (X1 X2 : List Value) (o : PairH w lo hi E (.slice A n c) n X1 (.slice D m d) m X2) (hhi : hi ≤ w.heap.size) (hl : n ≤ 100000000) (hl' : m ≤ 100000000) (hk : k ≤ 100000000) :
    Calls Tryz.prog 9 #[.agg #[.bool s, .slice A n c, .slice D m d], .int .i64 k] w fun e w' => e = .returned (.int .i64 ((k + (n + m) : Nat) : Int)) ∧ PairH w' lo hi E (.slice A n c) n (iv (marksI k n)) (.slice D m d) m (iv (marksI (k + n) m)) ∧ Aside lo hi w w' := by
  obtain ⟨l1, h1, l2, h2, p1, p2, a1, a2, a3, a4, hdis⟩ := o
  have ha0 := aside_new w lo hi (.cells #[.bool s, .slice A n c, .slice D m d] 30)
  have hb0 := below_new w (.cells #[.bool s, .slice A n c, .slice D m d] 30)
  have k0 := Box.last w 30 #[.bool s, .slice A n c, .slice D m d] rfl
  have hsz := alloc_size w (.cells #[.bool s, .slice A n c, .slice D m d] 30)
  have q1 := p1.below hb0 (by omega)
  have q2 := p2.below hb0 (by omega)
  have HC1 := hide (markBigInt_own (w.alloc (.cells #[.bool s, .slice A n c, .slice D m d] 30)) s A n c k E l1 h1 X1 q1 (by omega) (by omega) (by omega))
  obtain ⟨K, hK⟩ : ∃ K : Nat, K = k + n := ⟨_, rfl⟩
  have e3 : ((k + (n + m) : Nat) : Int) = ((K + m : Nat) : Int) := by omega
  rw [e3, ← hK]
  rw [← hK] at HC1
  have hKb : K ≤ 1000000000 := by omega
  clear hK e3 p1 p2
  go_enter Tryz.func9, Tryz.ntmps9
  go_wp2_with fail
  refine HC1.out.mono ?_
  rintro e w1 ⟨rfl, r1, ha1⟩
  have r2 := q2.aside ha1 (by omega)
  have k1 := k0.aside ha1 (.inr (by omega))
  have hs1 := ha1.size
  have ha01 := ha0.trans (ha1.wide a1 a3)
  obtain ⟨t0, t1, t2⟩ := k1.cells3
  have HC2 := hide (markIntS_own (.slice D m d) m K E l2 h2 X2 w1 r2 (by omega) (by omega))
  have HR1 := hide r1
  clear k0 k1 q1 q2 r1 r2 ha0 ha1 HC1
  go_wp2_with fail
  refine HC2.out.mono ?_
  rintro e w2 ⟨rfl, r3, ha2⟩
  have HP := hide (⟨l1, h1, l2, h2, HR1.out.aside ha2 (by omega), r3, a1, a2, a3, a4, hdis⟩ : PairH w2 lo hi E (.slice A n c) n (iv (marksI k n)) (.slice D m d) m (iv (marksI K m)))
  have ha3 := ha01.trans (ha2.wide a2 a4)
  clear r3 ha2 HR1 t0 t1 t2
  go_wp2_with fail
  go_ret
  exact ⟨rfl, HP.out, ha3⟩
set_option maxRecDepth 100000 in
set_option maxHeartbeats 800000 in
theorem heldRat_any (w : World) (s : Bool) (A : Option Addr) (n c : Nat) (D : Option Addr) (m d k B : Nat) (hB : B ≤ w.heap.size) (hx : Rd w B A (iv (marksI k n))) (hy : Rd w B D (iv (marksI (k + n) m))) (hl : n ≤ 100000000) (hl' : m ≤ 100000000) (hk : k ≤ 100000000) :
    Calls Tryz.prog 10 #[.agg #[.bool s, .slice A n c, .slice D m d], .int .i64 k] w fun e w' => e = .returned (.int .i64 ((k + (n + m) : Nat) : Int)) ∧ Below w.heap.size w w' := by
  have hb0 := below_new w (.cells #[.bool s, .slice A n c, .slice D m d] 30)
  have k0 := Box.last w 30 #[.bool s, .slice A n c, .slice D m d] rfl
  have hsz := alloc_size w (.cells #[.bool s, .slice A n c, .slice D m d] 30)
  have HC1 := hide (heldBigInt_any _ s A n c k B (by omega) (hx.below (hb0.mono hB)) (by omega) (by omega))
  obtain ⟨K, hK⟩ : ∃ K : Nat, K = k + n := ⟨_, rfl⟩
  obtain ⟨J, hJ⟩ : ∃ J : Nat, J = K + m := ⟨_, rfl⟩
  have e3 : ((k + (n + m) : Nat) : Int) = (J : Int) := by omega
  rw [e3]
  rw [← hK] at HC1 hy
  have HC2 := hide (fun (W : World) (h : Below w.heap.size w W) => heldIntS_any D m d K B W (hy.below (h.mono hB)) (by omega) (by omega))
  rw [← hJ] at HC2
  have hneg : ¬ (K : Int) < 0 := by omega
  have hneg2 : ¬ (J : Int) < 0 := by omega
  clear hK hJ e3 hx hy
  go_enter Tryz.func10, Tryz.ntmps10
  go_wp2_with fail
  refine HC1.out.mono ?_
  rintro e w1 ⟨rfl, hb1⟩
  have hb1' := below_then hb0 hb1
  obtain ⟨t0, t1, t2⟩ := (k0.below hb1 k0.lt).cells3
  have HC3 := hide (HC2.out w1 hb1')
  clear HC1 HC2 k0 hb1 hb0
  go_wp2_with fail
  refine HC3.out.mono ?_
  rintro e w2 ⟨rfl, rfl⟩
  go_wp2_with fail
  go_ret
  exact ⟨rfl, hb1'⟩
end Go.Proofs.YtdcceppednngjaaGreat

/-
  The laws' helpers told over whole fractions, and the same for vectors and points: szPoint, toVec, toPoint, eqVec, eqPoint, markPoint, heldPoint.
-/


namespace Go.Proofs.YtdcceppednngjaaGreat
open Go.RowKit
set_option linter.unusedVariables false
def sizQ (Z : RQ) : Nat := Z.1.2.length + Z.2.length
def markZ (k : Nat) (Z : RQ) : RQ := ((Z.1.1, marksI k Z.1.2.length), marksI (k + Z.1.2.length) Z.2.length)
theorem eqQ_any (w : World) (B : Nat) (hB : B ≤ w.heap.size) {v0 v1 v2 u0 u1 u2 : Value} {Z : RQ} (h : QIn w B v0 v1 v2 Z) (h' : QIn w B u0 u1 u2 Z) :
    Calls Tryz.prog 8 #[.agg #[v0, v1, v2], .agg #[u0, u1, u2]] w fun e w' => e = .returned (.bool true) ∧ Below w.heap.size w w' := by
  obtain ⟨A, n, c, D, m, k, rfl, rfl, rfl, r1, r2, _, _⟩ := h
  obtain ⟨A', n', c', D', m', k', rfl, rfl, rfl, r1', r2', _, _⟩ := h'
  obtain ⟨rfl, q1, _, _⟩ := r1
  obtain ⟨rfl, q2, _, _⟩ := r2
  obtain ⟨rfl, q1', _, _⟩ := r1'
  obtain ⟨rfl, q2', _, _⟩ := r2'
  exact eqRat_any w B hB Z.1.1 A A' _ c c' Z.1.2 rfl q1 q1' D D' _ k k' Z.2 rfl q2 q2' (by omega) (by omega)
theorem markQ_own (w : World) (lo hi E k : Nat) {v0 v1 v2 : Value} {Z : RQ} (o : QOwn w lo hi E v0 v1 v2 Z) (hhi : hi ≤ w.heap.size) (hl : Z.1.2.length ≤ 100000000 ∧ Z.2.length ≤ 100000000) (hk : k ≤ 100000000) :
    Calls Tryz.prog 9 #[.agg #[v0, v1, v2], .int .i64 k] w fun e w' => e = .returned (.int .i64 ((k + sizQ Z : Nat) : Int)) ∧ QOwn w' lo hi E v0 v1 v2 (markZ k Z) ∧ Aside lo hi w w' := by
  obtain ⟨A, c, D, d, rfl, rfl, rfl⟩ := o.form
  refine (markRat_own w Z.1.1 A _ c D _ d k E lo hi _ _ o.2 hhi hl.1 hl.2 hk).mono fun e w' => ?_
  rintro ⟨rfl, hp, ha⟩
  refine ⟨rfl, ⟨rfl, ?_⟩, ha⟩
  simp only [markZ, marksI_len]
  exact hp
theorem heldQ_any (w : World) (lo hi E k : Nat) {v0 v1 v2 : Value} {Z : RQ} (o : QOwn w lo hi E v0 v1 v2 (markZ k Z)) (hhi : hi ≤ w.heap.size) (hl : Z.1.2.length ≤ 100000000 ∧ Z.2.length ≤ 100000000) (hk : k ≤ 100000000) :
    Calls Tryz.prog 10 #[.agg #[v0, v1, v2], .int .i64 k] w fun e w' => e = .returned (.int .i64 ((k + sizQ Z : Nat) : Int)) ∧ Below w.heap.size w w' := by
  obtain ⟨rfl, l1, h1, l2, h2, o1, o2, a1, a2, a3, a4, hd⟩ := o
  simp only [markZ, marksI_len] at o1 o2
  obtain ⟨A, c, rfl⟩ := o1.form
  obtain ⟨D, d, rfl⟩ := o2.form
  exact heldRat_any w _ A _ c D _ d k w.heap.size (Nat.le_refl _) o1.rd o2.rd hl.1 hl.2 hk
/-! vectors -/
theorem Tryz.sizeVec : (Tryz.prog.info? 33).map (·.size) = some 2 := by kernel_rfl
theorem toVec_any (w : World) (x y : Int) (hx : (Lit.int .i64 x).wf = true) (hy : (Lit.int .i64 y).wf = true) :
    Calls Tryz.prog 21 #[.agg #[.int .i64 x, .int .i64 y]] w fun e w' => e = .returned (.agg #[.int .i64 x, .int .i64 y]) ∧ Below w.heap.size w w' := by
  obtain ⟨hx1, hx2⟩ := bounds_i64 hx
  obtain ⟨hy1, hy2⟩ := bounds_i64 hy
  go_enter Tryz.func21, Tryz.ntmps21
  go_wp2_with fail
  refine bodyPost_ret (results_cell_row rfl _ _ (w.heap.size + 1) _ #[.int .i64 x, .int .i64 y] (0, 0) _ rfl (show Box _ _ 33 #[.int .i64 x, .int .i64 y] from (Box.last _ _ _ (alloc_size _ _).symm).alloc _) Tryz.underlying33 rfl Tryz.sizeVec) rfl ?_
  · exact ⟨rfl, below_alloc (below_alloc (below_new _ _) _) _⟩
end Go.Proofs.YtdcceppednngjaaGreat
