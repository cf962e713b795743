/-
  The laws' helpers told over whole fractions, and the same for vectors and points: szPoint, toVec, toPoint, eqVec, eqPoint, markPoint, heldPoint.
-/
import Derived.Test.YtnbaookdeijhhaaGreatDoorPtM
import Derived.Test.YtnbaookdeijhhaaGreatDoorLB
namespace Go.Proofs.YtnbaookdeijhhaaGreatDoor
open Go.RowKit
set_option linter.unusedVariables false
/-- three cells with two lists of L elements in all -/
def QLen (v0 v1 v2 : Value) (L : Nat) : Prop := ∃ s A n c D m d, v0 = .bool s ∧ v1 = .slice A n c ∧ v2 = .slice D m d ∧ L = n + m ∧ n ≤ 9223372036854775807 ∧ m ≤ 9223372036854775807
/-- a fraction that came in -/
def QRow (w : World) (v0 v1 v2 : Value) : Prop := ∃ s A n c z D m d y, v0 = .bool s ∧ v1 = .slice A n c ∧ v2 = .slice D m d ∧ IsRow .i64 w A n c z ∧ IsRow .i64 w D m d y
theorem IsRow.cap {w : World} {a : Option Addr} {len cap : Nat} {zs : List Int} (h : IsRow .i64 w a len cap zs) : len ≤ cap ∧ cap ≤ maxLen := by
  rcases h with ⟨_, rfl, rfl, _⟩ | ⟨x, _, h1, h2, _⟩
  · exact ⟨Nat.le_refl _, Nat.zero_le _⟩
  · exact ⟨h1, h2⟩
theorem QRow.len {w : World} {v0 v1 v2 : Value} (h : QRow w v0 v1 v2) : ∃ L, QLen v0 v1 v2 L ∧ (L ≤ 1048576 → ∃ Z, QIn w w.heap.size v0 v1 v2 Z) := by
  obtain ⟨s, A, n, c, z, D, m, d, y, e0, e1, e2, r1, r2⟩ := h
  have c1 := r1.cap
  have c2 := r2.cap
  have hm1 := c1.2
  have hm2 := c2.2
  unfold maxLen at hm1 hm2
  refine ⟨n + m, ⟨s, A, n, c, D, m, d, e0, e1, e2, rfl, by omega, by omega⟩, fun hl => ?_⟩
  obtain ⟨xs, hx⟩ := r1.rdI (by omega)
  obtain ⟨ds, hd⟩ := r2.rdI (by omega)
  exact ⟨((s, xs), ds), A, n, c, D, m, d, e0, e1, e2, hx, hd, c1, c2⟩
def sizQ (Z : RQ) : Nat := Z.1.2.length + Z.2.length
def markZ (k : Nat) (Z : RQ) : RQ := ((Z.1.1, marksI k Z.1.2.length), marksI (k + Z.1.2.length) Z.2.length)
theorem szQ_any (w : World) {v0 v1 v2 : Value} {L : Nat} (h : QLen v0 v1 v2 L) (k : Nat) (hk : k ≤ 1000000000000) :
    Calls Tryz.prog 67 #[.agg #[v0, v1, v2], .int .i64 k] w fun e w' => e = .returned (.int .i64 (leftI k L)) ∧ Below w.heap.size w w' := by
  obtain ⟨s, A, n, c, D, m, d, rfl, rfl, rfl, rfl, h1, h2⟩ := h
  exact szRat_any w s A n c D m d k h1 h2 hk
theorem toQ_any (w : World) (B : Nat) (hB : B ≤ w.heap.size) {v0 v1 v2 : Value} {Z : RQ} (h : QIn w B v0 v1 v2 Z) :
    Calls Tryz.prog 70 #[.agg #[v0, v1, v2]] w fun e w' => QRes 3 w w' e Z := by
  obtain ⟨A, n, c, D, m, k, rfl, rfl, rfl, r1, r2, _, _⟩ := h
  refine (toRat_any w B hB Z.1.1 A n c Z.1.2 r1 D m k Z.2 r2).mono fun e w' => ?_
  obtain ⟨rfl, _⟩ := r1
  obtain ⟨rfl, _⟩ := r2
  rintro ⟨g1, g2, rfl, hp, hb⟩
  exact ⟨_, _, _, rfl, ⟨rfl, hp⟩, hb⟩
theorem eqQ_any (w : World) (B : Nat) (hB : B ≤ w.heap.size) {v0 v1 v2 u0 u1 u2 : Value} {Z : RQ} (h : QIn w B v0 v1 v2 Z) (h' : QIn w B u0 u1 u2 Z) :
    Calls Tryz.prog 71 #[.agg #[v0, v1, v2], .agg #[u0, u1, u2]] w fun e w' => e = .returned (.bool true) ∧ Below w.heap.size w w' := by
  obtain ⟨A, n, c, D, m, k, rfl, rfl, rfl, r1, r2, _, _⟩ := h
  obtain ⟨A', n', c', D', m', k', rfl, rfl, rfl, r1', r2', _, _⟩ := h'
  obtain ⟨rfl, q1, _, _⟩ := r1
  obtain ⟨rfl, q2, _, _⟩ := r2
  obtain ⟨rfl, q1', _, _⟩ := r1'
  obtain ⟨rfl, q2', _, _⟩ := r2'
  exact eqRat_any w B hB Z.1.1 A A' _ c c' Z.1.2 rfl q1 q1' D D' _ k k' Z.2 rfl q2 q2' (by omega) (by omega)
theorem markQ_own (w : World) (lo hi E k : Nat) {v0 v1 v2 : Value} {Z : RQ} (o : QOwn w lo hi E v0 v1 v2 Z) (hhi : hi ≤ w.heap.size) (hl : Z.1.2.length ≤ 100000000 ∧ Z.2.length ≤ 100000000) (hk : k ≤ 100000000) :
    Calls Tryz.prog 74 #[.agg #[v0, v1, v2], .int .i64 k] w fun e w' => e = .returned (.int .i64 ((k + sizQ Z : Nat) : Int)) ∧ QOwn w' lo hi E v0 v1 v2 (markZ k Z) ∧ Aside lo hi w w' := by
  obtain ⟨A, c, D, d, rfl, rfl, rfl⟩ := o.form
  refine (markRat_own w Z.1.1 A _ c D _ d k E lo hi _ _ o.2 hhi hl.1 hl.2 hk).mono fun e w' => ?_
  rintro ⟨rfl, hp, ha⟩
  refine ⟨rfl, ⟨rfl, ?_⟩, ha⟩
  simp only [markZ, marksI_len]
  exact hp
theorem heldQ_any (w : World) (lo hi E k : Nat) {v0 v1 v2 : Value} {Z : RQ} (o : QOwn w lo hi E v0 v1 v2 (markZ k Z)) (hhi : hi ≤ w.heap.size) (hl : Z.1.2.length ≤ 100000000 ∧ Z.2.length ≤ 100000000) (hk : k ≤ 100000000) :
    Calls Tryz.prog 75 #[.agg #[v0, v1, v2], .int .i64 k] w fun e w' => e = .returned (.int .i64 ((k + sizQ Z : Nat) : Int)) ∧ Below w.heap.size w w' := by
  obtain ⟨rfl, l1, h1, l2, h2, o1, o2, a1, a2, a3, a4, hd⟩ := o
  simp only [markZ, marksI_len] at o1 o2
  obtain ⟨A, c, rfl⟩ := o1.form
  obtain ⟨D, d, rfl⟩ := o2.form
  exact heldRat_any w _ A _ c D _ d k w.heap.size (Nat.le_refl _) o1.rd o2.rd hl.1 hl.2 hk
/-! vectors -/
theorem Tryz.sizePoint : (Tryz.prog.info? 38).map (·.size) = some 6 := by kernel_rfl
/-- six cells with lists of L elements in all -/
def PLen (v0 v1 v2 v3 v4 v5 : Value) (L : Nat) : Prop := ∃ n m, QLen v0 v1 v2 n ∧ QLen v3 v4 v5 m ∧ L = n + m
def PRow (w : World) (v0 v1 v2 v3 v4 v5 : Value) : Prop := QRow w v0 v1 v2 ∧ QRow w v3 v4 v5
theorem PRow.len {w : World} {v0 v1 v2 v3 v4 v5 : Value} (h : PRow w v0 v1 v2 v3 v4 v5) : ∃ L, PLen v0 v1 v2 v3 v4 v5 L ∧ (L ≤ 1048576 → ∃ P, PIn w w.heap.size v0 v1 v2 v3 v4 v5 P) := by
  obtain ⟨n, h1, k1⟩ := h.1.len
  obtain ⟨m, h2, k2⟩ := h.2.len
  refine ⟨n + m, ⟨n, m, h1, h2, rfl⟩, fun hl => ?_⟩
  obtain ⟨Z, hZ⟩ := k1 (by omega)
  obtain ⟨Y, hY⟩ := k2 (by omega)
  exact ⟨(Z, Y), hZ, hY⟩
def sizP (P : PQ) : Nat := sizQ P.1 + sizQ P.2
def markP (k : Nat) (P : PQ) : PQ := (markZ k P.1, markZ (k + sizQ P.1) P.2)
set_option maxRecDepth 100000 in
set_option maxHeartbeats 1600000 in
theorem szP_any (w : World) {v0 v1 v2 v3 v4 v5 : Value} {L : Nat} (h : PLen v0 v1 v2 v3 v4 v5 L) (k : Nat) (hk : k ≤ 1000000000000) :
    Calls Tryz.prog 30 #[.agg #[v0, v1, v2, v3, v4, v5], .int .i64 k] w fun e w' => e = .returned (.int .i64 (leftI k L)) ∧ Below w.heap.size w w' := by
  obtain ⟨n, m, hn, hm, rfl⟩ := h
  have hb0 := below_new w (.cells #[v0, v1, v2, v3, v4, v5] 58)
  have k0 := Box.last w 58 #[v0, v1, v2, v3, v4, v5] rfl
  have HC := hide (szQ_any (w.alloc (.cells #[v0, v1, v2, v3, v4, v5] 58)) hn k hk)
  clear hn
  by_cases h : n ≤ k
  · obtain ⟨r, hr⟩ : ∃ r : Nat, r + n = k := ⟨k - n, by omega⟩
    have e1 : leftI k n = (r : Int) := by rw [leftI, if_pos h]; omega
    rw [e1] at HC
    have hng : ¬ (r : Int) < 0 := by omega
    have HC2 := hide (fun (W : World) => szQ_any W hm r (by omega))
    clear hm
    by_cases h2 : m ≤ r
    · have e2 : leftI k (n + m) = (r : Int) - m := by rw [leftI, if_pos (by omega)]; omega
      have e3 : leftI r m = (r : Int) - m := by rw [leftI, if_pos h2]
      have hn2 : ¬ (r : Int) - (m : Int) < 0 := by omega
      rw [e2]
      rw [e3] at HC2
      clear e2 e1 e3 hr h
      go_enter Tryz.func30, Tryz.ntmps30
      go_wp2_with fail
      refine HC.out.mono ?_
      rintro e w1 ⟨rfl, hb1⟩
      obtain ⟨a0, a1, a2, a3, a4, a5⟩ := (k0.below hb1 k0.lt).cells6
      have hb1' := below_then hb0 hb1
      go_wp2_with fail
      refine (HC2.out w1).mono ?_
      rintro e w2 ⟨rfl, hb2⟩
      have hb2' := below_then hb1' hb2
      go_wp2_with fail
      go_ret
      exact ⟨rfl, hb2'⟩
    · have e2 : leftI k (n + m) = -1 := by rw [leftI, if_neg (by omega)]
      have e3 : leftI r m = -1 := by rw [leftI, if_neg h2]
      rw [e2]
      rw [e3] at HC2
      clear e2 e1 e3 hr h
      go_enter Tryz.func30, Tryz.ntmps30
      go_wp2_with fail
      refine HC.out.mono ?_
      rintro e w1 ⟨rfl, hb1⟩
      obtain ⟨a0, a1, a2, a3, a4, a5⟩ := (k0.below hb1 k0.lt).cells6
      have hb1' := below_then hb0 hb1
      go_wp2_with fail
      refine (HC2.out w1).mono ?_
      rintro e w2 ⟨rfl, hb2⟩
      have hb2' := below_then hb1' hb2
      go_wp2_with fail
      go_ret
      exact ⟨rfl, hb2'⟩
  · have e1 : leftI k n = -1 := if_neg h
    have e2 : leftI k (n + m) = -1 := if_neg (by omega)
    rw [e1] at HC
    rw [e2]
    clear e1 e2 hm
    go_enter Tryz.func30, Tryz.ntmps30
    go_wp2_with fail
    refine HC.out.mono ?_
    rintro e w1 ⟨rfl, hb1⟩
    have hb1' := below_then hb0 hb1
    go_wp2_with fail
    go_ret
    exact ⟨rfl, hb1'⟩
set_option maxRecDepth 100000 in
set_option maxHeartbeats 1600000 in
theorem toP_any (w : World) (B : Nat) (hB : B ≤ w.heap.size) {p0 p1 p2 p3 p4 p5 : Value} {pZ : PQ} (hp : PIn w B p0 p1 p2 p3 p4 p5 pZ) :
    Calls Tryz.prog 32 #[.agg #[p0, p1, p2, p3, p4, p5]] w fun e w' => PRes 3 w w' e pZ := by
  obtain ⟨W0, hW0⟩ : ∃ W0, W0 = (((w.alloc (.cells #[p0, p1, p2, p3, p4, p5] 58)).alloc (.cells #[.bool false, .slice none 0 0, .slice none 0 0, .bool false, .slice none 0 0, .slice none 0 0] 38)).alloc (.cells #[.bool false, .slice none 0 0, .slice none 0 0, .bool false, .slice none 0 0, .slice none 0 0] 38)) := ⟨_, rfl⟩
  have hT0 : Below w.heap.size w W0 := by rw [hW0]; exact below_alloc (below_alloc (below_new _ _) _) _
  have kp : Box W0 (w.heap.size) 58 #[p0, p1, p2, p3, p4, p5] := by rw [hW0]; exact ((Box.last _ _ _ rfl).alloc _).alloc _
  have kr : Box W0 (w.heap.size + 1) 38 #[.bool false, .slice none 0 0, .slice none 0 0, .bool false, .slice none 0 0, .slice none 0 0] := by rw [hW0]; exact (Box.last _ _ _ (alloc_size _ _).symm).alloc _
  have ko : Box W0 (w.heap.size + 2) 38 #[.bool false, .slice none 0 0, .slice none 0 0, .bool false, .slice none 0 0, .slice none 0 0] := by rw [hW0]; exact Box.last _ _ _ (by rw [alloc_size, alloc_size])
  have hs0 : W0.heap.size = w.heap.size + 3 := by rw [hW0, alloc_size, alloc_size, alloc_size]
  have hp := hp.below (hT0.mono hB)
  go_enter Tryz.func32, Tryz.ntmps32
  go_upto_region 2 with fail
  rw [← hW0]
  clear hW0
  obtain ⟨yp0, yp1, yp2, yp3, yp4, yp5⟩ := kp.cells6
  go_wp2_with fail
  refine (toQ_any W0 B (by omega) hp.1).mono ?_
  rintro e w1 ⟨x0, x1, x2, rfl, ox, hb1⟩
  clear yp0 yp1 yp2 yp3 yp4 yp5
  obtain ⟨xb, xA, xn, xc, xD, xm, xk, rfl, rfl, rfl⟩ := ox.cut
  have hs1 := hb1.size
  have hT1 := below_then hT0 hb1
  have kp := kp.below hb1 kp.lt
  have kr := kr.below hb1 kr.lt
  have ko := ko.below hb1 ko.lt
  have hp := hp.below (hb1.mono (by omega))
  clear hT0
  clear hb1
  obtain ⟨w2, hw2⟩ : ∃ x, x = (((w1.setCell ⟨w.heap.size + 2, 0, none⟩ (.bool xb)).setCell ⟨w.heap.size + 2, 1, none⟩ (.slice xA xn xc)).setCell ⟨w.heap.size + 2, 2, none⟩ (.slice xD xm xk)) := ⟨_, rfl⟩
  have hbs : Below w.heap.size w1 w2 := by rw [hw2]; exact (((Below.refl _ _).setCell (p := ⟨w.heap.size + 2, 0, none⟩) (show w.heap.size ≤ w.heap.size + 2 by omega) _).setCell (p := ⟨w.heap.size + 2, 1, none⟩) (show w.heap.size ≤ w.heap.size + 2 by omega) _).setCell (p := ⟨w.heap.size + 2, 2, none⟩) (show w.heap.size ≤ w.heap.size + 2 by omega) _
  have hs2 : w2.heap.size = w1.heap.size := by rw [hw2, setCell_size, setCell_size, setCell_size]
  have hT2 := hT1.trans hbs
  have kp' : Box w2 (w.heap.size) 58 #[p0, p1, p2, p3, p4, p5] := by rw [hw2]; exact (((kp.setv (show w.heap.size ≠ w.heap.size + 2 by omega) 0 _).setv (show w.heap.size ≠ w.heap.size + 2 by omega) 1 _).setv (show w.heap.size ≠ w.heap.size + 2 by omega) 2 _)
  have kr' : Box w2 (w.heap.size + 1) 38 #[.bool false, .slice none 0 0, .slice none 0 0, .bool false, .slice none 0 0, .slice none 0 0] := by rw [hw2]; exact (((kr.setv (show w.heap.size + 1 ≠ w.heap.size + 2 by omega) 0 _).setv (show w.heap.size + 1 ≠ w.heap.size + 2 by omega) 1 _).setv (show w.heap.size + 1 ≠ w.heap.size + 2 by omega) 2 _)
  have ko' : Box w2 (w.heap.size + 2) 38 #[.bool xb, .slice xA xn xc, .slice xD xm xk, .bool false, .slice none 0 0, .slice none 0 0] := by rw [hw2]; exact (((ko.set 0 _).set 1 _).set 2 _)
  have hp := hp.below (hbs.mono (by omega))
  have ox : QOwn w2 (W0.heap.size) (w1.heap.size) 3 (.bool xb) (.slice xA xn xc) (.slice xD xm xk) (pZ.1) := by rw [hw2]; exact (((ox.setv (by omega) 0 _).setv (by omega) 1 _).setv (by omega) 2 _)
  obtain ⟨⟨yo0, yo1, yo2, yo3, yo4, yo5⟩, zo0, zo1, zo2, zo3, zo4, zo5⟩ := ko.facts6
  go_upto_region 3 with fail
  rw [← hw2]
  clear yo0 yo1 yo2 yo3 yo4 yo5 zo0 zo1 zo2 zo3 zo4 zo5
  clear hbs hT1 hw2
  clear kp
  have kp := kp'
  clear kp'
  clear kr
  have kr := kr'
  clear kr'
  clear ko
  have ko := ko'
  clear ko'
  obtain ⟨yp0, yp1, yp2, yp3, yp4, yp5⟩ := kp.cells6
  go_wp2_with fail
  refine (toQ_any w2 B (by omega) hp.2).mono ?_
  rintro e w3 ⟨y0, y1, y2, rfl, oy, hb3⟩
  clear yp0 yp1 yp2 yp3 yp4 yp5
  obtain ⟨yb, yA, yn, yc, yD, ym, yk, rfl, rfl, rfl⟩ := oy.cut
  have hs3 := hb3.size
  have hT3 := below_then hT2 hb3
  have kp := kp.below hb3 kp.lt
  have kr := kr.below hb3 kr.lt
  have ko := ko.below hb3 ko.lt
  have hp := hp.below (hb3.mono (by omega))
  have ox := ox.below hb3 (by omega)
  clear hT2
  clear hb3
  obtain ⟨w4, hw4⟩ : ∃ x, x = (((w3.setCell ⟨w.heap.size + 2, 3, none⟩ (.bool yb)).setCell ⟨w.heap.size + 2, 4, none⟩ (.slice yA yn yc)).setCell ⟨w.heap.size + 2, 5, none⟩ (.slice yD ym yk)) := ⟨_, rfl⟩
  have hbs : Below w.heap.size w3 w4 := by rw [hw4]; exact (((Below.refl _ _).setCell (p := ⟨w.heap.size + 2, 3, none⟩) (show w.heap.size ≤ w.heap.size + 2 by omega) _).setCell (p := ⟨w.heap.size + 2, 4, none⟩) (show w.heap.size ≤ w.heap.size + 2 by omega) _).setCell (p := ⟨w.heap.size + 2, 5, none⟩) (show w.heap.size ≤ w.heap.size + 2 by omega) _
  have hs4 : w4.heap.size = w3.heap.size := by rw [hw4, setCell_size, setCell_size, setCell_size]
  have hT4 := hT3.trans hbs
  have kp' : Box w4 (w.heap.size) 58 #[p0, p1, p2, p3, p4, p5] := by rw [hw4]; exact (((kp.setv (show w.heap.size ≠ w.heap.size + 2 by omega) 3 _).setv (show w.heap.size ≠ w.heap.size + 2 by omega) 4 _).setv (show w.heap.size ≠ w.heap.size + 2 by omega) 5 _)
  have kr' : Box w4 (w.heap.size + 1) 38 #[.bool false, .slice none 0 0, .slice none 0 0, .bool false, .slice none 0 0, .slice none 0 0] := by rw [hw4]; exact (((kr.setv (show w.heap.size + 1 ≠ w.heap.size + 2 by omega) 3 _).setv (show w.heap.size + 1 ≠ w.heap.size + 2 by omega) 4 _).setv (show w.heap.size + 1 ≠ w.heap.size + 2 by omega) 5 _)
  have ko' : Box w4 (w.heap.size + 2) 38 #[.bool xb, .slice xA xn xc, .slice xD xm xk, .bool yb, .slice yA yn yc, .slice yD ym yk] := by rw [hw4]; exact (((ko.set 3 _).set 4 _).set 5 _)
  have hp := hp.below (hbs.mono (by omega))
  have ox : QOwn w4 (W0.heap.size) (w1.heap.size) 3 (.bool xb) (.slice xA xn xc) (.slice xD xm xk) (pZ.1) := by rw [hw4]; exact (((ox.setv (by omega) 3 _).setv (by omega) 4 _).setv (by omega) 5 _)
  have oy : QOwn w4 (w2.heap.size) (w3.heap.size) 3 (.bool yb) (.slice yA yn yc) (.slice yD ym yk) (pZ.2) := by rw [hw4]; exact (((oy.setv (by omega) 3 _).setv (by omega) 4 _).setv (by omega) 5 _)
  obtain ⟨⟨yo0, yo1, yo2, yo3, yo4, yo5⟩, zo0, zo1, zo2, zo3, zo4, zo5⟩ := ko.facts6
  go_upto_region 4 with fail
  rw [← hw4]
  clear yo0 yo1 yo2 yo3 yo4 yo5 zo0 zo1 zo2 zo3 zo4 zo5
  clear hbs hT3 hw4
  clear kp
  have kp := kp'
  clear kp'
  clear kr
  have kr := kr'
  clear kr'
  clear ko
  have ko := ko'
  clear ko'
  obtain ⟨yo0, yo1, yo2, yo3, yo4, yo5⟩ := ko.cells6
  obtain ⟨⟨yr0, yr1, yr2, yr3, yr4, yr5⟩, zr0, zr1, zr2, zr3, zr4, zr5⟩ := kr.facts6
  obtain ⟨wz, hwz⟩ : ∃ x, x = ((((((w4.setCell ⟨w.heap.size + 1, 0, none⟩ (.bool xb)).setCell ⟨w.heap.size + 1, 1, none⟩ (.slice xA xn xc)).setCell ⟨w.heap.size + 1, 2, none⟩ (.slice xD xm xk)).setCell ⟨w.heap.size + 1, 3, none⟩ (.bool yb)).setCell ⟨w.heap.size + 1, 4, none⟩ (.slice yA yn yc)).setCell ⟨w.heap.size + 1, 5, none⟩ (.slice yD ym yk)) := ⟨_, rfl⟩
  have HO := hide (⟨by rw [hwz]; exact ((((((kr.set 0 _).set 1 _).set 2 _).set 3 _).set 4 _).set 5 _), ⟨_, _, _, _, by rw [hwz]; exact ((((((ox.setv (.inl (by omega)) 0 _).setv (.inl (by omega)) 1 _).setv (.inl (by omega)) 2 _).setv (.inl (by omega)) 3 _).setv (.inl (by omega)) 4 _).setv (.inl (by omega)) 5 _), by rw [hwz]; exact ((((((oy.setv (.inl (by omega)) 0 _).setv (.inl (by omega)) 1 _).setv (.inl (by omega)) 2 _).setv (.inl (by omega)) 3 _).setv (.inl (by omega)) 4 _).setv (.inl (by omega)) 5 _), by omega, by omega, by rw [hwz]; simp only [setCell_size]; omega, by rw [hwz]; simp only [setCell_size]; omega, .inl (by omega)⟩, by rw [hwz]; exact ((((((hT4.setCell (p := ⟨w.heap.size + 1, 0, none⟩) (show w.heap.size ≤ w.heap.size + 1 by omega) _).setCell (p := ⟨w.heap.size + 1, 1, none⟩) (show w.heap.size ≤ w.heap.size + 1 by omega) _).setCell (p := ⟨w.heap.size + 1, 2, none⟩) (show w.heap.size ≤ w.heap.size + 1 by omega) _).setCell (p := ⟨w.heap.size + 1, 3, none⟩) (show w.heap.size ≤ w.heap.size + 1 by omega) _).setCell (p := ⟨w.heap.size + 1, 4, none⟩) (show w.heap.size ≤ w.heap.size + 1 by omega) _).setCell (p := ⟨w.heap.size + 1, 5, none⟩) (show w.heap.size ≤ w.heap.size + 1 by omega) _)⟩ : Box wz (w.heap.size + 1) 38 #[.bool xb, .slice xA xn xc, .slice xD xm xk, .bool yb, .slice yA yn yc, .slice yD ym yk] ∧ POwn wz w.heap.size wz.heap.size 3 (.bool xb) (.slice xA xn xc) (.slice xD xm xk) (.bool yb) (.slice yA yn yc) (.slice yD ym yk) pZ ∧ Below w.heap.size w wz)
  go_wp2_with fail
  rw [← hwz]
  refine bodyPost_ret (results_cell_row rfl _ _ (w.heap.size + 1) _ #[.bool xb, .slice xA xn xc, .slice xD xm xk, .bool yb, .slice yA yn yc, .slice yD ym yk] (0, 0) _ rfl HO.out.1 Tryz.underlying38 rfl Tryz.sizePoint) rfl ?_
  exact ⟨_, _, _, _, _, _, rfl, HO.out.2.1, HO.out.2.2⟩
set_option maxRecDepth 100000 in
set_option maxHeartbeats 1600000 in
theorem eqP_any (w : World) (B : Nat) (hB : B ≤ w.heap.size) {p0 p1 p2 p3 p4 p5 : Value} {pZ : PQ} (hp : PIn w B p0 p1 p2 p3 p4 p5 pZ) {q0 q1 q2 q3 q4 q5 : Value} (hq : PIn w B q0 q1 q2 q3 q4 q5 pZ) :
    Calls Tryz.prog 33 #[.agg #[p0, p1, p2, p3, p4, p5], .agg #[q0, q1, q2, q3, q4, q5]] w fun e w' => e = .returned (.bool true) ∧ Below w.heap.size w w' := by
  obtain ⟨W0, hW0⟩ : ∃ W0, W0 = ((w.alloc (.cells #[p0, p1, p2, p3, p4, p5] 38)).alloc (.cells #[q0, q1, q2, q3, q4, q5] 38)) := ⟨_, rfl⟩
  have hT0 : Below w.heap.size w W0 := by rw [hW0]; exact below_alloc (below_new _ _) _
  have kp : Box W0 (w.heap.size) 38 #[p0, p1, p2, p3, p4, p5] := by rw [hW0]; exact (Box.last _ _ _ rfl).alloc _
  have kq : Box W0 (w.heap.size + 1) 38 #[q0, q1, q2, q3, q4, q5] := by rw [hW0]; exact Box.last _ _ _ (alloc_size _ _).symm
  have hs0 : W0.heap.size = w.heap.size + 2 := by rw [hW0, alloc_size, alloc_size]
  have hp := hp.below (hT0.mono hB)
  have hq := hq.below (hT0.mono hB)
  go_enter Tryz.func33, Tryz.ntmps33
  go_upto_region 1 with fail
  rw [← hW0]
  clear hW0
  obtain ⟨yp0, yp1, yp2, yp3, yp4, yp5⟩ := kp.cells6
  obtain ⟨yq0, yq1, yq2, yq3, yq4, yq5⟩ := kq.cells6
  go_wp2_with fail
  refine (eqQ_any W0 B (by omega) hp.1 hq.1).mono ?_
  rintro e w1 ⟨rfl, hb1⟩
  clear yp0 yp1 yp2 yp3 yp4 yp5 yq0 yq1 yq2 yq3 yq4 yq5
  have hs1 := hb1.size
  have hT1 := below_then hT0 hb1
  have kp := kp.below hb1 kp.lt
  have kq := kq.below hb1 kq.lt
  have hp := hp.below (hb1.mono (by omega))
  have hq := hq.below (hb1.mono (by omega))
  clear hT0
  clear hb1
  obtain ⟨yp0, yp1, yp2, yp3, yp4, yp5⟩ := kp.cells6
  obtain ⟨yq0, yq1, yq2, yq3, yq4, yq5⟩ := kq.cells6
  go_wp2_with fail
  refine (eqQ_any w1 B (by omega) hp.2 hq.2).mono ?_
  rintro e w2 ⟨rfl, hb2⟩
  clear yp0 yp1 yp2 yp3 yp4 yp5 yq0 yq1 yq2 yq3 yq4 yq5
  have hs2 := hb2.size
  have hT2 := below_then hT1 hb2
  have kp := kp.below hb2 kp.lt
  have kq := kq.below hb2 kq.lt
  have hp := hp.below (hb2.mono (by omega))
  have hq := hq.below (hb2.mono (by omega))
  clear hT1
  clear hb2
  go_wp2_with fail
  go_ret
  exact ⟨rfl, hT2⟩
set_option maxRecDepth 100000 in
set_option maxHeartbeats 800000 in
theorem markP_own (w : World) (lo hi E k : Nat) {v0 v1 v2 v3 v4 v5 : Value} {P : PQ} (o : POwn w lo hi E v0 v1 v2 v3 v4 v5 P) (hhi : hi ≤ w.heap.size) (hl : PFit P) (hk : k ≤ 90000000) :
    Calls Tryz.prog 35 #[.agg #[v0, v1, v2, v3, v4, v5], .int .i64 k] w fun e w' => e = .returned (.int .i64 ((k + sizP P : Nat) : Int)) ∧ POwn w' lo hi E v0 v1 v2 v3 v4 v5 (markP k P) ∧ Aside lo hi w w' := by
  obtain ⟨l1, h1, l2, h2, p1, p2, a1, a2, a3, a4, hdis⟩ := o
  have ha0 := aside_new w lo hi (.cells #[v0, v1, v2, v3, v4, v5] 38)
  have hb0 := below_new w (.cells #[v0, v1, v2, v3, v4, v5] 38)
  have k0 := Box.last w 38 #[v0, v1, v2, v3, v4, v5] rfl
  have hsz := alloc_size w (.cells #[v0, v1, v2, v3, v4, v5] 38)
  have q1 := p1.below hb0 (by omega)
  have q2 := p2.below hb0 (by omega)
  have f1 := hl.1.1
  have f2 := hl.1.2.1
  have f3 := hl.2.1
  have f4 := hl.2.2.1
  have fz : sizQ P.1 ≤ 2097152 := by unfold sizQ; omega
  have HC1 := hide (markQ_own (w.alloc (.cells #[v0, v1, v2, v3, v4, v5] 38)) l1 h1 E k q1 (by omega) ⟨by omega, by omega⟩ (by omega))
  obtain ⟨K, hK⟩ : ∃ K : Nat, K = k + sizQ P.1 := ⟨_, rfl⟩
  have e3 : ((k + sizP P : Nat) : Int) = ((K + sizQ P.2 : Nat) : Int) := by unfold sizP; omega
  rw [e3]
  have em : markP k P = (markZ k P.1, markZ K P.2) := by rw [markP, ← hK]
  rw [em]
  rw [← hK] at HC1
  have hKb : K ≤ 100000000 := by omega
  clear hK e3 em p1 p2 hl fz
  go_enter Tryz.func35, Tryz.ntmps35
  go_wp2_with fail
  refine HC1.out.mono ?_
  rintro e w1 ⟨rfl, r1, ha1⟩
  have r2 := q2.aside ha1 (by omega)
  have k1 := k0.aside ha1 (.inr (by omega))
  have hs1 := ha1.size
  have ha01 := ha0.trans (ha1.wide a1 a3)
  obtain ⟨t0, t1, t2, t3, t4, t5⟩ := k1.cells6
  have HC2 := hide (markQ_own w1 l2 h2 E K r2 (by omega) ⟨by omega, by omega⟩ (by omega))
  have HR1 := hide r1
  clear k0 k1 q1 q2 r1 r2 ha0 ha1 HC1
  go_wp2_with fail
  refine HC2.out.mono ?_
  rintro e w2 ⟨rfl, r3, ha2⟩
  have HP := hide (⟨l1, h1, l2, h2, HR1.out.aside ha2 (by omega), r3, a1, a2, a3, a4, hdis⟩ : POwn w2 lo hi E v0 v1 v2 v3 v4 v5 (markZ k P.1, markZ K P.2))
  have ha3 := ha01.trans (ha2.wide a2 a4)
  clear r3 ha2 HR1 t0 t1 t2 t3 t4 t5
  go_wp2_with fail
  go_ret
  exact ⟨rfl, HP.out, ha3⟩
set_option maxRecDepth 100000 in
set_option maxHeartbeats 800000 in
theorem heldP_any (w : World) (lo hi E k : Nat) {v0 v1 v2 v3 v4 v5 : Value} {P : PQ} (o : POwn w lo hi E v0 v1 v2 v3 v4 v5 (markP k P)) (hhi : hi ≤ w.heap.size) (hl : PFit P) (hk : k ≤ 90000000) :
    Calls Tryz.prog 36 #[.agg #[v0, v1, v2, v3, v4, v5], .int .i64 k] w fun e w' => e = .returned (.int .i64 ((k + sizP P : Nat) : Int)) ∧ Below w.heap.size w w' := by
  obtain ⟨l1, h1, l2, h2, p1, p2, a1, a2, a3, a4, hdis⟩ := o
  have hb0 := below_new w (.cells #[v0, v1, v2, v3, v4, v5] 38)
  have k0 := Box.last w 38 #[v0, v1, v2, v3, v4, v5] rfl
  have hsz := alloc_size w (.cells #[v0, v1, v2, v3, v4, v5] 38)
  have q1 := p1.below hb0 (by omega)
  have f1 := hl.1.1
  have f2 := hl.1.2.1
  have f3 := hl.2.1
  have f4 := hl.2.2.1
  have fz : sizQ P.1 ≤ 2097152 := by unfold sizQ; omega
  have HC1 := hide (heldQ_any (w.alloc (.cells #[v0, v1, v2, v3, v4, v5] 38)) l1 h1 E k q1 (by omega) ⟨by omega, by omega⟩ (by omega))
  have p2' : QOwn w l2 h2 E v3 v4 v5 (markZ (k + sizQ P.1) P.2) := p2
  obtain ⟨K, hK⟩ : ∃ K : Nat, K = k + sizQ P.1 := ⟨_, rfl⟩
  obtain ⟨J, hJ⟩ : ∃ J : Nat, J = K + sizQ P.2 := ⟨_, rfl⟩
  have e3 : ((k + sizP P : Nat) : Int) = (J : Int) := by unfold sizP; omega
  rw [e3]
  rw [← hK] at HC1 p2'
  have HC2 := hide (fun (W : World) (h : Below w.heap.size w W) => heldQ_any W l2 h2 E K (p2'.below h (by omega)) (by have := h.size; omega) ⟨by omega, by omega⟩ (by omega))
  rw [← hJ] at HC2
  have hneg : ¬ (K : Int) < 0 := by omega
  have hneg2 : ¬ (J : Int) < 0 := by omega
  clear hK hJ e3 p1 p2 p2' q1 hl
  go_enter Tryz.func36, Tryz.ntmps36
  go_wp2_with fail
  refine HC1.out.mono ?_
  rintro e w1 ⟨rfl, hb1⟩
  have hb1' := below_then hb0 hb1
  obtain ⟨t0, t1, t2, t3, t4, t5⟩ := (k0.below hb1 k0.lt).cells6
  have HC3 := hide (HC2.out w1 hb1')
  clear HC1 HC2 k0 hb1 hb0
  go_wp2_with fail
  refine HC3.out.mono ?_
  rintro e w2 ⟨rfl, hb2⟩
  have hb2' := below_then hb1' hb2
  go_wp2_with fail
  go_ret
  exact ⟨rfl, hb2'⟩
end Go.Proofs.YtnbaookdeijhhaaGreatDoor
