/-
  The law FnBigInts: its walk.
-/
import Derived.Test.YtapjblghnflekaaDoorBigD
import Derived.Test.YtapjblghnflekaaDoorBigI7
import Derived.Test.YtapjblghnflekaaDoorBigI8
import Derived.Test.YtapjblghnflekaaDoorBigI9
import Derived.Test.YtapjblghnflekaaDoorBigI11
import Derived.Deep.RegionHeld3
import Derived.Sort.AtCall
namespace Go.Proofs.YtapjblghnflekaaDoor
open Go.RowKit
set_option linter.unusedVariables false

/-- a list of the call's own, somewhere -/
def OwnC (w : World) (v : Value) (xs : List Int) : Prop := ∃ lo hi, Own w lo hi 3 v xs.length (iv xs) ∧ hi ≤ w.heap.size
theorem OwnC.of {w w' : World} {v : Value} {xs : List Int} (o : Own w' w.heap.size w'.heap.size 3 v xs.length (iv xs)) : OwnC w' v xs := ⟨_, _, o, Nat.le_refl _⟩
theorem OwnC.below {w w' : World} {v : Value} {xs : List Int} (o : OwnC w v xs) (hb : Below w.heap.size w w') : OwnC w' v xs := by
  obtain ⟨lo, hi, o, h⟩ := o
  exact ⟨lo, hi, o.below hb h, Nat.le_trans h hb.size⟩
theorem OwnC.form {w : World} {v : Value} {xs : List Int} (o : OwnC w v xs) : ∃ A c, v = .slice A xs.length c := by
  obtain ⟨lo, hi, o, h⟩ := o
  exact o.form
theorem OwnC.rdI {w : World} {A : Option Addr} {c : Nat} {xs : List Int} (o : OwnC w (.slice A xs.length c) xs) (h : natB xs = true) : RdI w w.heap.size A xs.length xs := by
  obtain ⟨lo, hi, o, _⟩ := o
  exact RdI.of_own o (by have := ((natB_iff xs).1 h).2; omega) ((natB_iff xs).1 h).1.1
theorem inR_small {z : Int} (h : z.natAbs < 1000000000000000000000000000000) : inR z := Nat.lt_trans h (by decide)
theorem inR_mul {x y : Int} (hx : x.natAbs < 1000000000000000000000000000000) (hy : y.natAbs < 1000000000000000000000000000000) : inR (x * y) := by
  show (x * y).natAbs < _
  rw [Int.natAbs_mul]
  exact Nat.lt_trans (Nat.mul_lt_mul'' hx hy) (by decide)
theorem CMul (w : World) (a b z : Int) (hz : a * b = z) (ha : inR a) (hb : inR b) (A : Option Addr) (c : Nat) (oa : OwnC w (.slice A (capZ a).2.length c) (capZ a).2) (A' : Option Addr) (c' : Nat) (ob : OwnC w (.slice A' (capZ b).2.length c') (capZ b).2) :
    Calls Tryd.prog 10 #[.agg #[.bool (capZ a).1, .slice A (capZ a).2.length c], .agg #[.bool (capZ b).1, .slice A' (capZ b).2.length c']] w fun e w' => ∃ v, e = .returned (.agg #[.bool (capZ z).1, v]) ∧ OwnC w' v (capZ z).2 ∧ Below w.heap.size w w' := by
  subst hz
  have h := impl_BigIntMul w w.heap.size (Nat.le_refl _) (capZ a).1 A _ c (capZ a).2 (oa.rdI (natB_cap ha)) (capZ b).1 A' _ c' (capZ b).2 (ob.rdI (natB_cap hb))
  rw [mulZ_cap ha hb] at h
  exact h.mono fun e w' ⟨v, h1, h2, h3⟩ => ⟨v, h1, OwnC.of h2, h3⟩
theorem CAdd (w : World) (a b z : Int) (hz : a + b = z) (ha : inR a) (hb : inR b) (A : Option Addr) (c : Nat) (oa : OwnC w (.slice A (capZ a).2.length c) (capZ a).2) (A' : Option Addr) (c' : Nat) (ob : OwnC w (.slice A' (capZ b).2.length c') (capZ b).2) :
    Calls Tryd.prog 7 #[.agg #[.bool (capZ a).1, .slice A (capZ a).2.length c], .agg #[.bool (capZ b).1, .slice A' (capZ b).2.length c']] w fun e w' => ∃ v, e = .returned (.agg #[.bool (capZ z).1, v]) ∧ OwnC w' v (capZ z).2 ∧ Below w.heap.size w w' := by
  subst hz
  have h := impl_BigIntAdd w w.heap.size (Nat.le_refl _) (capZ a).1 A _ c (capZ a).2 (oa.rdI (natB_cap ha)) (capZ b).1 A' _ c' (capZ b).2 (ob.rdI (natB_cap hb))
  rw [addZ_cap ha hb] at h
  exact h.mono fun e w' ⟨v, h1, h2, h3⟩ => ⟨v, h1, OwnC.of h2, h3⟩
theorem CSub (w : World) (a b z : Int) (hz : a - b = z) (ha : inR a) (hb : inR b) (A : Option Addr) (c : Nat) (oa : OwnC w (.slice A (capZ a).2.length c) (capZ a).2) (A' : Option Addr) (c' : Nat) (ob : OwnC w (.slice A' (capZ b).2.length c') (capZ b).2) :
    Calls Tryd.prog 9 #[.agg #[.bool (capZ a).1, .slice A (capZ a).2.length c], .agg #[.bool (capZ b).1, .slice A' (capZ b).2.length c']] w fun e w' => ∃ v, e = .returned (.agg #[.bool (capZ z).1, v]) ∧ OwnC w' v (capZ z).2 ∧ Below w.heap.size w w' := by
  subst hz
  have h := impl_BigIntSub w w.heap.size (Nat.le_refl _) (capZ a).1 A _ c (capZ a).2 (oa.rdI (natB_cap ha)) (capZ b).1 A' _ c' (capZ b).2 (ob.rdI (natB_cap hb))
  rw [subZ_cap ha hb] at h
  exact h.mono fun e w' ⟨v, h1, h2, h3⟩ => ⟨v, h1, OwnC.of h2, h3⟩
theorem CCmp (w : World) (a : Int) (ha : inR a) (A : Option Addr) (c : Nat) (oa : OwnC w (.slice A (capZ a).2.length c) (capZ a).2) (A' : Option Addr) (c' : Nat) (ob : OwnC w (.slice A' (capZ a).2.length c') (capZ a).2) :
    Calls Tryd.prog 8 #[.agg #[.bool (capZ a).1, .slice A (capZ a).2.length c], .agg #[.bool (capZ a).1, .slice A' (capZ a).2.length c']] w fun e w' => e = .returned (.int .i64 0) ∧ Below w.heap.size w w' := by
  have h := impl_BigIntCmp w w.heap.size (Nat.le_refl _) (capZ a).1 A _ c (capZ a).2 (oa.rdI (natB_cap ha)) (capZ a).1 A' _ c' (capZ a).2 (ob.rdI (natB_cap ha))
  rw [cmpZ_cap ha] at h
  exact h
theorem CParse (w : World) (a : Int) (ha : inR a) :
    Calls Tryd.prog 5 #[.string (fmtZ (capZ a).1 (capZ a).2)] w fun e w' => ∃ v, e = .returned (.tuple #[.agg #[.bool (capZ a).1, v], .bool true]) ∧ OwnC w' v (capZ a).2 ∧ Below w.heap.size w w' := by
  have h := impl_ParseBigInt w w.heap.size (Nat.le_refl _) (fmtZ (capZ a).1 (capZ a).2) (Nat.le_trans (fmtZ_size (bigB_cap ha)) (by omega))
  rw [(parse_fmtZ (bigB_cap ha)).1, (parse_fmtZ (bigB_cap ha)).2] at h
  exact h.mono fun e w' ⟨v, h1, h2, h3⟩ => ⟨v, h1, OwnC.of h2, h3⟩
set_option maxRecDepth 100000 in
set_option maxHeartbeats 16000000 in
theorem FnBigInts_walk (w : World) (a0 : Option Addr) (len0 cap0 : Nat) (z0 : List Int) (h0 : IsRow .u8 w a0 len0 cap0 z0) (hT : PowTab w) :
    Calls Tryd.prog 3 #[.slice a0 len0 cap0] w fun e w' => e = .returned (.bool true) ∧ Below w.heap.size w w' := by
  obtain ⟨hby, hlm⟩ := h0.bytes
  clear h0
  unfold maxLen at hlm
  by_cases h : 1048576 < len0
  · clear hT hby
    go_enter Tryd.func3, Tryd.ntmps3
    go_wp2_with fail
    go_ret
    exact ⟨rfl, Below.refl _ _⟩
  have hl : len0 ≤ 1048576 := by omega
  have hPT := hide hT
  clear hT h
  go_enter Tryd.func3, Tryd.ntmps3
  go_wp2_with fail
  refine (MakeBig0 len0 cap0 _ a0 w (by omega) hby (Nat.le_refl _)).mono ?_
  rintro e w1 ⟨a, vx, rfl, qx, hla, hb1⟩
  obtain ⟨Aox, cox, rfl⟩ := qx.form
  have ox_1 := OwnC.of qx
  clear qx
  have hby1 := hby.below hb1
  clear hby
  have HS1 := hide hb1.size
  have t1 := hb1
  have hs1 := hb1.size
  clear hb1
  obtain ⟨w2, hw2⟩ : ∃ x, x = w1.alloc (.cells #[.bool (capZ a).1, .slice Aox (capZ a).2.length cox] 25) := ⟨_, rfl⟩
  have hb2 : Below w1.heap.size w1 w2 := by rw [hw2]; exact below_new _ _
  have bn : Box w2 w1.heap.size 25 #[.bool (capZ a).1, .slice Aox (capZ a).2.length cox] := by rw [hw2]; exact Box.last _ _ _ rfl
  obtain ⟨gbx, hgbx⟩ : ∃ g, g = w1.heap.size := ⟨_, rfl⟩
  have ox_2 := ox_1.below hb2
  clear ox_1
  have t2 := t1.trans (Below.mono hb2 t1.size)
  clear t1
  have hs2 := hb2.size
  have bx_2 := bn
  have HB12 := hide hb2
  clear bn hb2
  go_upto_region 4 with fail
  rw [← hw2]
  clear hw2
  rw [← hgbx] at bx_2
  rw [← hgbx]
  clear hgbx
  have HBY := hide hby1
  have hby2 : Bytes w2 w.heap.size a0 len0 := by
    exact HBY.out.below (HB12.out.mono HS1.out)
  clear HBY HB12 hby1
  go_wp2_with fail
  refine (MakeBig1 len0 cap0 _ a0 w2 (by omega) hby2 t2.size).mono ?_
  rintro e w3 ⟨b, vy, rfl, qy, hlb, hb3⟩
  obtain ⟨Aoy, coy, rfl⟩ := qy.form
  have oy_3 := OwnC.of qy
  clear qy hby2
  have ox_3 := ox_2.below hb3
  clear ox_2
  have bx_3 := bx_2.below hb3 bx_2.lt
  clear bx_2
  have t3 := t2.trans (Below.mono hb3 t2.size)
  clear t2
  have hs3 := hb3.size
  clear hb3
  obtain ⟨w4, hw4⟩ : ∃ x, x = w3.alloc (.cells #[.bool (capZ b).1, .slice Aoy (capZ b).2.length coy] 25) := ⟨_, rfl⟩
  have hb4 : Below w3.heap.size w3 w4 := by rw [hw4]; exact below_new _ _
  have bn : Box w4 w3.heap.size 25 #[.bool (capZ b).1, .slice Aoy (capZ b).2.length coy] := by rw [hw4]; exact Box.last _ _ _ rfl
  obtain ⟨gby, hgby⟩ : ∃ g, g = w3.heap.size := ⟨_, rfl⟩
  have ox_4 := ox_3.below hb4
  clear ox_3
  have oy_4 := oy_3.below hb4
  clear oy_3
  have bx_4 := bx_3.below hb4 bx_3.lt
  clear bx_3
  have t4 := t3.trans (Below.mono hb4 t3.size)
  clear t3
  have hs4 := hb4.size
  have by_4 := bn
  clear bn hb4
  go_upto_region 5 with fail
  rw [← hw4]
  clear hw4
  rw [← hgby] at by_4
  rw [← hgby]
  clear hgby
  have hRa : inR a := inR_small (by omega)
  have hRb : inR b := inR_small (by omega)
  have hRs : inR (a + b) := inR_small (by omega)
  have HRa := hide hRa
  have HRb := hide hRb
  have HRs := hide hRs
  clear hRa hRb hRs
  obtain ⟨x0, x1, _, _⟩ := bx_4.facts
  go_wp2_with fail
  refine (impl_FormatBigInt w4 w4.heap.size (Nat.le_refl _) (capZ a).1 Aox _ cox (capZ a).2 (ox_4.rdI (natB_cap HRa.out)) (hPT.out.below t4 hPT.out.lt)).mono ?_
  rintro e w5 ⟨rfl, hb5⟩
  clear x0 x1
  have ox_5 := ox_4.below hb5
  clear ox_4
  have oy_5 := oy_4.below hb5
  clear oy_4
  have bx_5 := bx_4.below hb5 bx_4.lt
  clear bx_4
  have by_5 := by_4.below hb5 by_4.lt
  clear by_4
  have t5 := t4.trans (Below.mono hb5 t4.size)
  clear t4
  have hs5 := hb5.size
  clear hb5
  go_wp2_with fail
  refine (CParse w5 a HRa.out).mono ?_
  rintro e w6 ⟨vz, rfl, oz_6, hb6⟩
  obtain ⟨Aoz, coz, rfl⟩ := oz_6.form
  have ox_6 := ox_5.below hb6
  clear ox_5
  have oy_6 := oy_5.below hb6
  clear oy_5
  have bx_6 := bx_5.below hb6 bx_5.lt
  clear bx_5
  have by_6 := by_5.below hb6 by_5.lt
  clear by_5
  have t6 := t5.trans (Below.mono hb6 t5.size)
  clear t5
  have hs6 := hb6.size
  clear hb6
  obtain ⟨w7, hw7⟩ : ∃ x, x = w6.alloc (.cells #[.bool (capZ a).1, .slice Aoz (capZ a).2.length coz] 25) := ⟨_, rfl⟩
  have hb7 : Below w6.heap.size w6 w7 := by rw [hw7]; exact below_new _ _
  have bn : Box w7 w6.heap.size 25 #[.bool (capZ a).1, .slice Aoz (capZ a).2.length coz] := by rw [hw7]; exact Box.last _ _ _ rfl
  obtain ⟨gbz, hgbz⟩ : ∃ g, g = w6.heap.size := ⟨_, rfl⟩
  have ox_7 := ox_6.below hb7
  clear ox_6
  have oy_7 := oy_6.below hb7
  clear oy_6
  have oz_7 := oz_6.below hb7
  clear oz_6
  have bx_7 := bx_6.below hb7 bx_6.lt
  clear bx_6
  have by_7 := by_6.below hb7 by_6.lt
  clear by_6
  have t7 := t6.trans (Below.mono hb7 t6.size)
  clear t6
  have hs7 := hb7.size
  have bz_7 := bn
  clear bn hb7
  go_upto_region 6 with fail
  rw [← hw7]
  clear hw7
  rw [← hgbz] at bz_7
  rw [← hgbz]
  clear hgbz
  obtain ⟨x0, x1, _, _⟩ := bx_7.facts
  obtain ⟨y0, y1, _, _⟩ := by_7.facts
  go_wp2_with fail
  refine (CAdd w7 a b (a + b) rfl HRa.out HRb.out Aox cox ox_7 Aoy coy oy_7).mono ?_
  rintro e w8 ⟨vs, rfl, os_8, hb8⟩
  obtain ⟨Aos, cos, rfl⟩ := os_8.form
  clear x0 x1 y0 y1
  have ox_8 := ox_7.below hb8
  clear ox_7
  have oy_8 := oy_7.below hb8
  clear oy_7
  have oz_8 := oz_7.below hb8
  clear oz_7
  have bx_8 := bx_7.below hb8 bx_7.lt
  clear bx_7
  have by_8 := by_7.below hb8 by_7.lt
  clear by_7
  have bz_8 := bz_7.below hb8 bz_7.lt
  clear bz_7
  have t8 := t7.trans (Below.mono hb8 t7.size)
  clear t7
  have hs8 := hb8.size
  clear hb8
  obtain ⟨w9, hw9⟩ : ∃ x, x = w8.alloc (.cells #[.bool (capZ (a + b)).1, .slice Aos (capZ (a + b)).2.length cos] 25) := ⟨_, rfl⟩
  have hb9 : Below w8.heap.size w8 w9 := by rw [hw9]; exact below_new _ _
  have bn : Box w9 w8.heap.size 25 #[.bool (capZ (a + b)).1, .slice Aos (capZ (a + b)).2.length cos] := by rw [hw9]; exact Box.last _ _ _ rfl
  obtain ⟨gbs, hgbs⟩ : ∃ g, g = w8.heap.size := ⟨_, rfl⟩
  have ox_9 := ox_8.below hb9
  clear ox_8
  have oy_9 := oy_8.below hb9
  clear oy_8
  have oz_9 := oz_8.below hb9
  clear oz_8
  have os_9 := os_8.below hb9
  clear os_8
  have bx_9 := bx_8.below hb9 bx_8.lt
  clear bx_8
  have by_9 := by_8.below hb9 by_8.lt
  clear by_8
  have bz_9 := bz_8.below hb9 bz_8.lt
  clear bz_8
  have t9 := t8.trans (Below.mono hb9 t8.size)
  clear t8
  have hs9 := hb9.size
  have bs_9 := bn
  clear bn hb9
  go_upto_region 7 with fail
  rw [← hw9]
  clear hw9
  rw [← hgbs] at bs_9
  rw [← hgbs]
  clear hgbs
  obtain ⟨P, hP⟩ : ∃ P, P = (a + b) * (a + b) := ⟨_, rfl⟩
  obtain ⟨Q, hQ⟩ : ∃ Q, Q = (a + b) * a := ⟨_, rfl⟩
  obtain ⟨R, hR⟩ : ∃ R, R = (a + b) * b := ⟨_, rfl⟩
  obtain ⟨M, hM⟩ : ∃ M, M = a * b := ⟨_, rfl⟩
  obtain ⟨S, hS⟩ : ∃ S, S = a + b := ⟨_, rfl⟩
  have HRP : Hid (inR P) := by show inR P; rw [hP]; exact inR_mul (by omega) (by omega)
  have HRQ : Hid (inR Q) := by show inR Q; rw [hQ]; exact inR_mul (by omega) (by omega)
  have HRR : Hid (inR R) := by show inR R; rw [hR]; exact inR_mul (by omega) (by omega)
  have HRM : Hid (inR M) := by show inR M; rw [hM]; exact inR_mul (by omega) (by omega)
  have HE2 : Hid (S - b = a) := by show S - b = a; omega
  have HE4 : Hid (a * b = M) := hM.symm
  have HE5 : Hid (b * a = M) := by show b * a = M; rw [hM, Int.mul_comm]
  have HE7 : Hid (S * S = P) := by show S * S = P; rw [hP, hS]
  have HE8 : Hid (S * a = Q) := by show S * a = Q; rw [hQ, hS]
  have HE9 : Hid (S * b = R) := by show S * b = R; rw [hR, hS]
  have HE10 : Hid (Q + R = P) := by show Q + R = P; rw [hQ, hR, hP, ← Int.mul_add]
  rw [← hS] at HRs
  rw [← hS] at os_9 bs_9
  clear hP hQ hR hM hla hlb
  have Hbx := hide bx_9
  have Hby := hide by_9
  have Hbz := hide bz_9
  have Hbs := hide bs_9
  have Hox := hide (fun (W : World) (hq : Below w9.heap.size w9 W) => ox_9.below hq)
  have Hoy := hide (fun (W : World) (hq : Below w9.heap.size w9 W) => oy_9.below hq)
  have Hoz := hide (fun (W : World) (hq : Below w9.heap.size w9 W) => oz_9.below hq)
  have Hos := hide (fun (W : World) (hq : Below w9.heap.size w9 W) => os_9.below hq)
  have HKS := hide (fun (W : World) (hq : Below w9.heap.size w9 W) => (⟨(Hbx.out.below hq Hbx.out.lt).cell 0, (Hbx.out.below hq Hbx.out.lt).cell 1, (Hby.out.below hq Hby.out.lt).cell 0, (Hby.out.below hq Hby.out.lt).cell 1, (Hbz.out.below hq Hbz.out.lt).cell 0, (Hbz.out.below hq Hbz.out.lt).cell 1, (Hbs.out.below hq Hbs.out.lt).cell 0, (Hbs.out.below hq Hbs.out.lt).cell 1⟩ : W.cell? ⟨gbx, 0, none⟩ = some (.bool (capZ a).1) ∧ W.cell? ⟨gbx, 1, none⟩ = some (.slice Aox (capZ a).2.length cox) ∧ W.cell? ⟨gby, 0, none⟩ = some (.bool (capZ b).1) ∧ W.cell? ⟨gby, 1, none⟩ = some (.slice Aoy (capZ b).2.length coy) ∧ W.cell? ⟨gbz, 0, none⟩ = some (.bool (capZ a).1) ∧ W.cell? ⟨gbz, 1, none⟩ = some (.slice Aoz (capZ a).2.length coz) ∧ W.cell? ⟨gbs, 0, none⟩ = some (.bool (capZ S).1) ∧ W.cell? ⟨gbs, 1, none⟩ = some (.slice Aos (capZ S).2.length cos)))
  obtain ⟨bx0, bx1, _, _⟩ := bx_9.facts
  obtain ⟨by0, by1, _, _⟩ := by_9.facts
  obtain ⟨bz0, bz1, _, _⟩ := bz_9.facts
  obtain ⟨bs0, bs1, _, _⟩ := bs_9.facts
  have HS0 : Hid (Below w9.heap.size w9 w9.drew) := (Below.refl _ _).drew
  have HTT := hide t9
  clear ox_9
  clear oy_9
  clear oz_9
  clear os_9
  clear bx_9
  clear by_9
  clear bz_9
  clear bs_9
  clear t9
  have HSS := hide hS
  clear hS
  try rw [← HSS.out]
  go_region_held3 (fun w' => w'.cell? ⟨gbx, 0, none⟩ = some (.bool (capZ a).1) ∧ w'.cell? ⟨gbx, 1, none⟩ = some (.slice Aox (capZ a).2.length cox) ∧ w'.cell? ⟨gby, 0, none⟩ = some (.bool (capZ b).1) ∧ w'.cell? ⟨gby, 1, none⟩ = some (.slice Aoy (capZ b).2.length coy) ∧ w'.cell? ⟨gbz, 0, none⟩ = some (.bool (capZ a).1) ∧ w'.cell? ⟨gbz, 1, none⟩ = some (.slice Aoz (capZ a).2.length coz) ∧ w'.cell? ⟨gbs, 0, none⟩ = some (.bool (capZ S).1) ∧ w'.cell? ⟨gbs, 1, none⟩ = some (.slice Aos (capZ S).2.length cos))
      (first | (with_reducible exact HKS.out _ HS11.out) | (with_reducible exact HKS.out _ HS10.out) | (with_reducible exact HKS.out _ HS9.out) | (with_reducible exact HKS.out _ HS8.out) | (with_reducible exact HKS.out _ HS7.out) | (with_reducible exact HKS.out _ HS6.out) | (with_reducible exact HKS.out _ HS5.out) | (with_reducible exact HKS.out _ HS4.out) | (with_reducible exact HKS.out _ HS3.out) | (with_reducible exact HKS.out _ HS2.out) | (with_reducible exact HKS.out _ HS1.out) | (with_reducible exact HKS.out _ HS0.out))
      (first
        | (go_at_call 8; have hz11 := HS10; refine (CCmp _ P HRP.out Ad7 cd7 d7 Ad10 cd10 d10).mono ?_; rintro e u11 ⟨rfl, hb11⟩; have HS11 := hide (below_then HS10.out hb11))
        | (go_at_call 7; have hz10 := HS9; refine (CAdd _ Q R P HE10.out HRQ.out HRR.out Ad8 cd8 d8 Ad9 cd9 d9).mono ?_; rintro e u10 ⟨v10, rfl, d10, hb10⟩; obtain ⟨Ad10, cd10, rfl⟩ := d10.form; have HS10 := hide (below_then HS9.out hb10); replace d7 := d7.below hb10)
        | (go_at_call 10; have hz9 := HS8; refine (CMul _ S b R HE9.out HRs.out HRb.out Aos cos (Hos.out _ HS8.out) Aoy coy (Hoy.out _ HS8.out)).mono ?_; rintro e u9 ⟨v9, rfl, d9, hb9⟩; obtain ⟨Ad9, cd9, rfl⟩ := d9.form; have HS9 := hide (below_then HS8.out hb9); replace d7 := d7.below hb9; replace d8 := d8.below hb9)
        | (go_at_call 10; have hz8 := HS7; refine (CMul _ S a Q HE8.out HRs.out HRa.out Aos cos (Hos.out _ HS7.out) Aox cox (Hox.out _ HS7.out)).mono ?_; rintro e u8 ⟨v8, rfl, d8, hb8⟩; obtain ⟨Ad8, cd8, rfl⟩ := d8.form; have HS8 := hide (below_then HS7.out hb8); replace d7 := d7.below hb8)
        | (go_at_call 10; have hz7 := HS6; refine (CMul _ S S P HE7.out HRs.out HRs.out Aos cos (Hos.out _ HS6.out) Aos cos (Hos.out _ HS6.out)).mono ?_; rintro e u7 ⟨v7, rfl, d7, hb7⟩; obtain ⟨Ad7, cd7, rfl⟩ := d7.form; have HS7 := hide (below_then HS6.out hb7))
        | (go_at_call 8; have hz6 := HS5; refine (CCmp _ M HRM.out Ad4 cd4 d4 Ad5 cd5 d5).mono ?_; rintro e u6 ⟨rfl, hb6⟩; have HS6 := hide (below_then HS5.out hb6))
        | (go_at_call 10; have hz5 := HS4; refine (CMul _ b a M HE5.out HRb.out HRa.out Aoy coy (Hoy.out _ HS4.out) Aox cox (Hox.out _ HS4.out)).mono ?_; rintro e u5 ⟨v5, rfl, d5, hb5⟩; obtain ⟨Ad5, cd5, rfl⟩ := d5.form; have HS5 := hide (below_then HS4.out hb5); replace d4 := d4.below hb5)
        | (go_at_call 10; have hz4 := HS3; refine (CMul _ a b M HE4.out HRa.out HRb.out Aox cox (Hox.out _ HS3.out) Aoy coy (Hoy.out _ HS3.out)).mono ?_; rintro e u4 ⟨v4, rfl, d4, hb4⟩; obtain ⟨Ad4, cd4, rfl⟩ := d4.form; have HS4 := hide (below_then HS3.out hb4))
        | (go_at_call 8; have hz3 := HS2; refine (CCmp _ a HRa.out Ad2 cd2 d2 Aox cox (Hox.out _ HS2.out)).mono ?_; rintro e u3 ⟨rfl, hb3⟩; have HS3 := hide (below_then HS2.out hb3))
        | (go_at_call 9; have hz2 := HS1; refine (CSub _ S b a HE2.out HRs.out HRb.out Aos cos (Hos.out _ HS1.out) Aoy coy (Hoy.out _ HS1.out)).mono ?_; rintro e u2 ⟨v2, rfl, d2, hb2⟩; obtain ⟨Ad2, cd2, rfl⟩ := d2.form; have HS2 := hide (below_then HS1.out hb2))
        | (go_at_call 8; have hz1 := HS0; refine (CCmp _ a HRa.out Aoz coz (Hoz.out _ HS0.out) Aox cox (Hox.out _ HS0.out)).mono ?_; rintro e u1 ⟨rfl, hb1⟩; have HS1 := hide (below_then HS0.out hb1)))
  have hfin := HTT.out.trans (Below.mono HS11.out HTT.out.size)
  clear HKS Hox Hoy Hoz Hos Hbx Hby Hbz Hbs HS0 HS1 HS2 HS3 HS4 HS5 HS6 HS7 HS8 HS9 HS10 HS11
  go_wp2_with fail
  go_ret
  exact ⟨rfl, hfin⟩
end Go.Proofs.YtapjblghnflekaaDoor
