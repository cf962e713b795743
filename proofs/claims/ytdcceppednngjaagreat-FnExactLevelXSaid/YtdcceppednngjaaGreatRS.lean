/-
  The texts RatR5, RatR6, RatR7, put together; each has its own heading below. No condition of ours.
-/
import Derived.Test.YtdcceppednngjaaGreatRL
import Derived.Test.YtdcceppednngjaaGreatBigR5
import Derived.Test.YtdcceppednngjaaGreatRA
import Derived.Sort.AtCall
import Derived.Deep.RegionHeld3
import Derived.Test.YtdcceppednngjaaGreatBigR3
import Derived.Deep.CutRange
/-
  The reference's fractions: contracts (5): products; l04Mul, RatDiv, l04Cmp.
-/





namespace Go.Proofs.YtdcceppednngjaaGreat
open Go.RowKit
set_option linter.unusedVariables false
def prodL (xs ys : List Int) : List Int := limbs (natV xs * natV ys)
theorem prodL_val {xs ys : List Int} (hx : natB xs = true) (hy : natB ys = true) : limbs (val xs * val ys).toNat = prodL xs ys := by
  rw [zval hx, zval hy, ← Int.natCast_mul]; rfl
theorem prodL_ok {xs ys : List Int} (hx : natB xs = true) (hy : natB ys = true) (lx : xs.length ≤ 24) (ly : ys.length ≤ 24) : natB (prodL xs ys) = true ∧ natV (prodL xs ys) = natV xs * natV ys :=
  ⟨natB_limbs (lt60 (prod_48 (natV_24 hx lx) (natV_24 hy ly))), natV_limbs _⟩
theorem prodL_limbs (xs ys : List Int) : Limbs (prodL xs ys) := limbs_ok _
theorem prodL_len {xs ys : List Int} (hx : natB xs = true) (hy : natB ys = true) : (prodL xs ys).length ≤ 1048576 := by
  have h1 := natB_lt hx
  have h2 := natB_lt hy
  have : (prodL xs ys).length ≤ 120 := by
    refine limbs_len.2 ?_
    rw [show (1000000000 : Nat) ^ 120 = 1000000000 ^ 60 * 1000000000 ^ 60 by rw [← Nat.pow_add]]
    exact Nat.mul_lt_mul'' h1 h2
  omega
theorem spec_MulO (w : World) (B : Nat) (hB : B ≤ w.heap.size) (A : Option Addr) (n c : Nat) (xs : List Int) (Rx : RdI w B A n xs) (hx : natB xs = true) (A' : Option Addr) (m c' : Nat) (ys : List Int) (Ry : RdI w B A' m ys) (hy : natB ys = true) :
    Calls Tryz.prog 39 #[.slice A n c, .slice A' m c'] w fun e w' => ∃ v, e = .returned v ∧ Own w' w.heap.size w'.heap.size 3 v (prodL xs ys).length (iv (prodL xs ys)) ∧ Below w.heap.size w w' := by
  have h1 := ((natB_iff xs).1 hx).2
  have h2 := ((natB_iff ys).1 hy).2
  refine (spec_Mul w B hB A A' n m c c' xs ys Rx.1 Ry.1 Rx.2.1 Ry.2.1 (by have := Rx.1; omega) (by have := Ry.1; omega) ((natB_iff xs).1 hx).1.1 ((natB_iff ys).1 hy).1.1).mono ?_
  rintro e w' ⟨v, he, q, hb⟩
  rw [prodL_val hx hy] at q
  exact ⟨v, he, Own.of q, hb⟩
theorem spec_MakeZ (w : World) (B : Nat) (hB : B ≤ w.heap.size) (s : Bool) (A : Option Addr) (n c : Nat) (xs : List Int) (hn : xs.length = n) (hx : Rd w B A (iv xs)) (hc : n ≤ c ∧ c ≤ maxLen) (Z : Bool × List Int) (hZ : (s && !(capT xs).isEmpty, capT xs) = Z) :
    Calls Tryz.prog 50 #[.bool s, .slice A n c] w fun e w' => ∃ v, e = .returned (.agg #[.bool Z.1, v]) ∧ Own w' w.heap.size w'.heap.size 3 v Z.2.length (iv Z.2) ∧ Below w.heap.size w w' := by
  subst hZ
  exact spec_Make w B hB s A n c xs hn hx hc.1 hc.2
theorem make_mulZ {s : Bool} {xs es : List Int} (h : bigB s xs = true) (k : natB es = true) : (s && !(capT (prodL xs es)).isEmpty, capT (prodL xs es)) = mulZ s xs false es := by
  rw [num_mulZ h k, prodL, make_limbs, zv_nat (bigB_nat h), zval k]
  congr 1
  cases s
  · simp
  · simp [Int.neg_mul]
theorem mul_ref {s t : Bool} {xs ds ys es : List Int} (h : ratB s xs ds = true) (k : ratB t ys es = true) :
    lowR (zv (s != t) (prodL xs ys)) (natV (prodL ds es)) = lowR (zv s xs * zv t ys) (natV ds * natV es) := by
  obtain ⟨h1, h2⟩ := prodL_ok (bigB_nat (ratB_big h)) (bigB_nat (ratB_big k)) (ratB_short h).1 (ratB_short k).1
  obtain ⟨_, h4⟩ := prodL_ok (ratB_den h) (ratB_den k) (ratB_short h).2 (ratB_short k).2
  rw [h4, zv_nat h1, h2, zv_nat (bigB_nat (ratB_big h)), zv_nat (bigB_nat (ratB_big k))]
  congr 1
  cases s <;> cases t <;> simp [Int.neg_mul, Int.mul_neg]
theorem div_ref {s t : Bool} {xs ds ys es : List Int} (h : ratB s xs ds = true) (k : ratB t ys es = true) :
    lowR (zv (s != t) (prodL xs es)) (natV (prodL ds ys)) = lowR (zv (s != t) xs * val es) (natV ys * natV ds) := by
  obtain ⟨h1, h2⟩ := prodL_ok (bigB_nat (ratB_big h)) (ratB_den k) (ratB_short h).1 (ratB_short k).2
  obtain ⟨_, h4⟩ := prodL_ok (ratB_den h) (bigB_nat (ratB_big k)) (ratB_short h).2 (ratB_short k).1
  rw [h4, zv_nat h1, h2, zv_nat (bigB_nat (ratB_big h)), zval (ratB_den k), Nat.mul_comm (natV ds)]
  congr 1
  cases (s != t) <;> simp [Int.neg_mul]
set_option maxRecDepth 100000 in
set_option maxHeartbeats 3200000 in
theorem spec_ratMul (w : World) (B : Nat) (hB : B ≤ w.heap.size) (s : Bool) (A : Option Addr) (n c : Nat) (xs : List Int) (Rx : RdI w B A n xs) (D : Option Addr) (m k : Nat) (ds : List Int) (Rd' : RdI w B D m ds) (hr : ratB s xs ds = true) (t : Bool) (A' : Option Addr) (n' c' : Nat) (ys : List Int) (Ry : RdI w B A' n' ys) (D' : Option Addr) (m' k' : Nat) (es : List Int) (Re' : RdI w B D' m' es) (hq : ratB t ys es = true) :
    Calls Tryz.prog 59 #[.agg #[.bool s, .slice A n c, .slice D m k], .agg #[.bool t, .slice A' n' c', .slice D' m' k']] w fun e w' => RatRes 3 w w' e (lowR (zv s xs * zv t ys) (natV ds * natV es)) := by
  rw [← mul_ref hr hq]
  obtain ⟨W0, hW0⟩ : ∃ W0, W0 = (((w.alloc (.cells #[.bool s, .slice A n c, .slice D m k] 30)).alloc (.cells #[.bool t, .slice A' n' c', .slice D' m' k'] 30)).alloc (.cells #[.bool false, .slice none 0 0, .slice none 0 0] 30)) := ⟨_, rfl⟩
  have hb0 : Below w.heap.size w W0 := by rw [hW0]; exact below_alloc (below_alloc (below_new _ _) _) _
  have kx : Box W0 (w.heap.size) 30 #[.bool s, .slice A n c, .slice D m k] := by rw [hW0]; exact ((Box.last _ _ _ rfl).alloc _).alloc _
  have ky : Box W0 (w.heap.size + 1) 30 #[.bool t, .slice A' n' c', .slice D' m' k'] := by rw [hW0]; exact (Box.last _ _ _ (alloc_size _ _).symm).alloc _
  have kr : Box W0 (w.heap.size + 2) 30 #[.bool false, .slice none 0 0, .slice none 0 0] := by rw [hW0]; exact Box.last _ _ _ (by rw [alloc_size, alloc_size])
  have hs0 : W0.heap.size = w.heap.size + 3 := by rw [hW0, alloc_size, alloc_size, alloc_size]
  have HX := hide kx
  have HY := hide ky
  have RX := Rx.below (hb0.mono hB)
  have RD := Rd'.below (hb0.mono hB)
  have RY := Ry.below (hb0.mono hB)
  have RE := Re'.below (hb0.mono hB)
  have hbx := bigB_nat (ratB_big hr)
  have hbd := ratB_den hr
  have hby := bigB_nat (ratB_big hq)
  have hbe := ratB_den hq
  have HRR := hide kr
  have HC1 := hide (fun (W : World) (h : Below W0.heap.size W0 W) => spec_MulO W B (by have := h.size; omega) A n c xs (RX.below (h.mono (by omega))) hbx A' n' c' ys (RY.below (h.mono (by omega))) hby)
  have HC2 := hide (fun (W : World) (h : Below W0.heap.size W0 W) => spec_MulO W B (by have := h.size; omega) D m k ds (RD.below (h.mono (by omega))) hbd D' m' k' es (RE.below (h.mono (by omega))) hbe)
  have g1 := (prodL_ok hbx hby (ratB_short hr).1 (ratB_short hq).1).1
  have g2 := (prodL_ok hbd hbe (ratB_short hr).2 (ratB_short hq).2).1
  have HL1 := hide (prodL_len hbx hby)
  have HL2 := hide (prodL_len hbd hbe)
  have HC3 := hide (fun (W : World) (A1 A2 : Option Addr) (c1 c2 : Nat) (R1 : RdI W W.heap.size A1 (prodL xs ys).length (prodL xs ys)) (p1 : (prodL xs ys).length ≤ c1 ∧ c1 ≤ maxLen) (R2 : RdI W W.heap.size A2 (prodL ds es).length (prodL ds es)) (p2 : (prodL ds es).length ≤ c2 ∧ c2 ≤ maxLen) => spec_Low W W.heap.size (Nat.le_refl _) (s != t) A1 _ c1 (prodL xs ys) R1 p1 g1 A2 _ c2 (prodL ds es) R2 p2 g2)
  clear RX RD RY RE kx ky kr hbx hbd hby hbe g1 g2 hr hq
  obtain ⟨a0, a1, a2⟩ := HX.out.cells3
  obtain ⟨b0, b1, b2⟩ := HY.out.cells3
  have HS0 : Hid (Below W0.heap.size W0 W0.drew) := (Below.refl _ _).drew
  have HKS := hide (fun (W : World) (hq : Below W0.heap.size W0 W) => (⟨(HX.out.below hq HX.out.lt).cell 0, (HX.out.below hq HX.out.lt).cell 1, (HX.out.below hq HX.out.lt).cell 2, (HY.out.below hq HY.out.lt).cell 0, (HY.out.below hq HY.out.lt).cell 1, (HY.out.below hq HY.out.lt).cell 2⟩ : W.cell? ⟨w.heap.size, 0, none⟩ = some (.bool s) ∧ W.cell? ⟨w.heap.size, 1, none⟩ = some (.slice A n c) ∧ W.cell? ⟨w.heap.size, 2, none⟩ = some (.slice D m k) ∧ W.cell? ⟨w.heap.size + 1, 0, none⟩ = some (.bool t) ∧ W.cell? ⟨w.heap.size + 1, 1, none⟩ = some (.slice A' n' c') ∧ W.cell? ⟨w.heap.size + 1, 2, none⟩ = some (.slice D' m' k')))
  have HKR := hide (fun (W : World) (hq : Below W0.heap.size W0 W) => (⟨(HRR.out.below hq HRR.out.lt).cell 0, (HRR.out.below hq HRR.out.lt).cell 1, (HRR.out.below hq HRR.out.lt).cell 2, (HRR.out.below hq HRR.out.lt).frozen 0, (HRR.out.below hq HRR.out.lt).frozen 1, (HRR.out.below hq HRR.out.lt).frozen 2⟩ : W.cell? ⟨w.heap.size + 2, 0, none⟩ = some (.bool false) ∧ W.cell? ⟨w.heap.size + 2, 1, none⟩ = some (.slice none 0 0) ∧ W.cell? ⟨w.heap.size + 2, 2, none⟩ = some (.slice none 0 0) ∧ W.frozen? ⟨w.heap.size + 2, 0, none⟩ = false ∧ W.frozen? ⟨w.heap.size + 2, 1, none⟩ = false ∧ W.frozen? ⟨w.heap.size + 2, 2, none⟩ = false))
  have HKT := hide (fun (W : World) (hq : Below W0.heap.size W0 W) (x y z : Value) => (⟨(((((HX.out.below hq HX.out.lt).setv (show w.heap.size ≠ w.heap.size + 2 by omega) 0 x).setv (show w.heap.size ≠ w.heap.size + 2 by omega) 1 y).setv (show w.heap.size ≠ w.heap.size + 2 by omega) 2 z)).cell 0, (((((HX.out.below hq HX.out.lt).setv (show w.heap.size ≠ w.heap.size + 2 by omega) 0 x).setv (show w.heap.size ≠ w.heap.size + 2 by omega) 1 y).setv (show w.heap.size ≠ w.heap.size + 2 by omega) 2 z)).cell 1, (((((HX.out.below hq HX.out.lt).setv (show w.heap.size ≠ w.heap.size + 2 by omega) 0 x).setv (show w.heap.size ≠ w.heap.size + 2 by omega) 1 y).setv (show w.heap.size ≠ w.heap.size + 2 by omega) 2 z)).cell 2, (((((HY.out.below hq HY.out.lt).setv (show w.heap.size + 1 ≠ w.heap.size + 2 by omega) 0 x).setv (show w.heap.size + 1 ≠ w.heap.size + 2 by omega) 1 y).setv (show w.heap.size + 1 ≠ w.heap.size + 2 by omega) 2 z)).cell 0, (((((HY.out.below hq HY.out.lt).setv (show w.heap.size + 1 ≠ w.heap.size + 2 by omega) 0 x).setv (show w.heap.size + 1 ≠ w.heap.size + 2 by omega) 1 y).setv (show w.heap.size + 1 ≠ w.heap.size + 2 by omega) 2 z)).cell 1, (((((HY.out.below hq HY.out.lt).setv (show w.heap.size + 1 ≠ w.heap.size + 2 by omega) 0 x).setv (show w.heap.size + 1 ≠ w.heap.size + 2 by omega) 1 y).setv (show w.heap.size + 1 ≠ w.heap.size + 2 by omega) 2 z)).cell 2⟩ : (((W.setCell ⟨w.heap.size + 2, 0, none⟩ x).setCell ⟨w.heap.size + 2, 1, none⟩ y).setCell ⟨w.heap.size + 2, 2, none⟩ z).cell? ⟨w.heap.size, 0, none⟩ = some (.bool s) ∧ (((W.setCell ⟨w.heap.size + 2, 0, none⟩ x).setCell ⟨w.heap.size + 2, 1, none⟩ y).setCell ⟨w.heap.size + 2, 2, none⟩ z).cell? ⟨w.heap.size, 1, none⟩ = some (.slice A n c) ∧ (((W.setCell ⟨w.heap.size + 2, 0, none⟩ x).setCell ⟨w.heap.size + 2, 1, none⟩ y).setCell ⟨w.heap.size + 2, 2, none⟩ z).cell? ⟨w.heap.size, 2, none⟩ = some (.slice D m k) ∧ (((W.setCell ⟨w.heap.size + 2, 0, none⟩ x).setCell ⟨w.heap.size + 2, 1, none⟩ y).setCell ⟨w.heap.size + 2, 2, none⟩ z).cell? ⟨w.heap.size + 1, 0, none⟩ = some (.bool t) ∧ (((W.setCell ⟨w.heap.size + 2, 0, none⟩ x).setCell ⟨w.heap.size + 2, 1, none⟩ y).setCell ⟨w.heap.size + 2, 2, none⟩ z).cell? ⟨w.heap.size + 1, 1, none⟩ = some (.slice A' n' c') ∧ (((W.setCell ⟨w.heap.size + 2, 0, none⟩ x).setCell ⟨w.heap.size + 2, 1, none⟩ y).setCell ⟨w.heap.size + 2, 2, none⟩ z).cell? ⟨w.heap.size + 1, 2, none⟩ = some (.slice D' m' k')))
  go_enter Tryz.func59, Tryz.ntmps59
  go_upto_region 1 with fail
  rw [← hW0]
  clear hW0
  go_region_held3 (fun w' => w'.cell? ⟨w.heap.size, 0, none⟩ = some (.bool s) ∧ w'.cell? ⟨w.heap.size, 1, none⟩ = some (.slice A n c) ∧ w'.cell? ⟨w.heap.size, 2, none⟩ = some (.slice D m k) ∧ w'.cell? ⟨w.heap.size + 1, 0, none⟩ = some (.bool t) ∧ w'.cell? ⟨w.heap.size + 1, 1, none⟩ = some (.slice A' n' c') ∧ w'.cell? ⟨w.heap.size + 1, 2, none⟩ = some (.slice D' m' k'))
      (first | (with_reducible exact HKT.out _ HS3.out _ _ _) | (with_reducible exact HKS.out _ HS3.out) | (with_reducible exact HKS.out _ HS2.out) | (with_reducible exact HKS.out _ HS1.out) | (with_reducible exact HKS.out _ HS0.out))
      (first
        | (go_at_call_has 39 A; refine (HC1.out _ HS0.out).mono ?_; rintro e w1 ⟨v1, rfl, o1, hb1⟩; obtain ⟨A1, c1, rfl⟩ := o1.form; have P1 := hide o1.cap; have HS1 := hide (below_then HS0.out hb1))
        | (go_at_call_has 39 D; refine (HC2.out _ HS1.out).mono ?_; rintro e w2 ⟨v2, rfl, o2, hb2⟩; obtain ⟨A2, c2, rfl⟩ := o2.form; have P2 := hide o2.cap; have r1 := RdI.of_own (o1.below hb2 (Nat.le_refl _)) HL1.out (prodL_limbs _ _); have r2 := RdI.of_own o2 HL2.out (prodL_limbs _ _); have HS2 := hide (below_then HS1.out hb2))
        | (go_at_call 38; refine (HC3.out _ _ _ _ _ r1 P1.out r2 P2.out).mono ?_; rintro e w3 ⟨v3, d3, rfl, p3, hb3⟩; obtain ⟨A3, c3, K3, k3, rfl, rfl⟩ := p3.form; have HS3 := hide (below_then HS2.out hb3); obtain ⟨z0, z1, z2, z3, z4, z5⟩ := HKR.out _ HS3.out))
  have hz1 := hb1.size
  have hz2 := hb2.size
  have kr3 := HRR.out.below HS3.out HRR.out.lt
  have HO := hide (ret_rat kr3 p3 (below_then hb0 HS3.out) (x := (lowR (zv (s != t) (prodL xs ys)) (natV (prodL ds es))).1.1) (show w.heap.size ≤ w.heap.size + 2 by omega) (show w.heap.size + 2 < w2.heap.size by (try simp only [drew_size] at hz1 hz2); omega))
  clear o1 o2 r1 r2 p3 hb1 hb2 hb3 z0 z1 z2 z3 z4 z5 kr3 hz1 hz2
  go_wp2_with fail
  refine bodyPost_ret (results_cell_row rfl _ _ (w.heap.size + 2) _ #[.bool (lowR (zv (s != t) (prodL xs ys)) (natV (prodL ds es))).1.1, .slice A3 (lowR (zv (s != t) (prodL xs ys)) (natV (prodL ds es))).1.2.length c3, .slice K3 (lowR (zv (s != t) (prodL xs ys)) (natV (prodL ds es))).2.length k3] (0, 0) _ rfl HO.out.1 Tryz.underlying30 rfl Tryz.sizeRat) rfl ?_
  exact ⟨_, _, rfl, HO.out.2.1, HO.out.2.2⟩
set_option maxRecDepth 100000 in
set_option maxHeartbeats 3200000 in
theorem spec_ratCmp (w : World) (B : Nat) (hB : B ≤ w.heap.size) (s : Bool) (A : Option Addr) (n c : Nat) (xs : List Int) (Rx : RdI w B A n xs) (D : Option Addr) (m k : Nat) (ds : List Int) (Rd' : RdI w B D m ds) (hr : ratB s xs ds = true) (t : Bool) (A' : Option Addr) (n' c' : Nat) (ys : List Int) (Ry : RdI w B A' n' ys) (D' : Option Addr) (m' k' : Nat) (es : List Int) (Re' : RdI w B D' m' es) (hq : ratB t ys es = true) :
    Calls Tryz.prog 37 #[.agg #[.bool s, .slice A n c, .slice D m k], .agg #[.bool t, .slice A' n' c', .slice D' m' k']] w fun e w' => e = .returned (.int .i64 (cmpW s xs ds t ys es)) ∧ Below w.heap.size w w' := by
  have hz : cmpV (zv (mulZ s xs false es).1 (mulZ s xs false es).2) (zv (mulZ t ys false ds).1 (mulZ t ys false ds).2) = cmpW s xs ds t ys es := by rw [num_mulZ (ratB_big hr) (ratB_den hq), num_mulZ (ratB_big hq) (ratB_den hr), (capZ_back (lt60 (numB hr hq))).2.1, (capZ_back (lt60 (numB hq hr))).2.1]; rfl
  rw [← hz]
  obtain ⟨W0, hW0⟩ : ∃ W0, W0 = ((w.alloc (.cells #[.bool s, .slice A n c, .slice D m k] 30)).alloc (.cells #[.bool t, .slice A' n' c', .slice D' m' k'] 30)) := ⟨_, rfl⟩
  have hb0 : Below w.heap.size w W0 := by rw [hW0]; exact below_alloc (below_new _ _) _
  have kx : Box W0 (w.heap.size) 30 #[.bool s, .slice A n c, .slice D m k] := by rw [hW0]; exact (Box.last _ _ _ rfl).alloc _
  have ky : Box W0 (w.heap.size + 1) 30 #[.bool t, .slice A' n' c', .slice D' m' k'] := by rw [hW0]; exact Box.last _ _ _ (alloc_size _ _).symm
  have hs0 : W0.heap.size = w.heap.size + 2 := by rw [hW0, alloc_size, alloc_size]
  have HX := hide kx
  have HY := hide ky
  have RX := Rx.below (hb0.mono hB)
  have RD := Rd'.below (hb0.mono hB)
  have RY := Ry.below (hb0.mono hB)
  have RE := Re'.below (hb0.mono hB)
  have hbx := bigB_nat (ratB_big hr)
  have hbd := ratB_den hr
  have hby := bigB_nat (ratB_big hq)
  have hbe := ratB_den hq
  have HC1 := hide (fun (W : World) (h : Below W0.heap.size W0 W) => spec_MulO W B (by have := h.size; omega) A n c xs (RX.below (h.mono (by omega))) hbx D' m' k' es (RE.below (h.mono (by omega))) hbe)
  have HC3 := hide (fun (W : World) (h : Below W0.heap.size W0 W) => spec_MulO W B (by have := h.size; omega) A' n' c' ys (RY.below (h.mono (by omega))) hby D m k ds (RD.below (h.mono (by omega))) hbd)
  have HL1 := hide (prodL_len hbx hbe)
  have HL3 := hide (prodL_len hby hbd)
  have e1 := make_mulZ (ratB_big hr) hbe
  have e3 := make_mulZ (ratB_big hq) hbd
  have b1 : bigB (mulZ s xs false es).1 (mulZ s xs false es).2 = true := by rw [num_mulZ (ratB_big hr) hbe]; exact (capZ_back (lt60 (numB hr hq))).1
  have b3 : bigB (mulZ t ys false ds).1 (mulZ t ys false ds).2 = true := by rw [num_mulZ (ratB_big hq) hbd]; exact (capZ_back (lt60 (numB hq hr))).1
  have HC2 := hide (fun (W : World) (A1 : Option Addr) (c1 : Nat) (R1 : Rd W W.heap.size A1 (iv (prodL xs es))) (p1 : (prodL xs es).length ≤ c1 ∧ c1 ≤ maxLen) => spec_MakeZ W W.heap.size (Nat.le_refl _) s A1 _ c1 (prodL xs es) rfl R1 p1 _ e1)
  have HC4 := hide (fun (W : World) (A1 : Option Addr) (c1 : Nat) (R1 : Rd W W.heap.size A1 (iv (prodL ys ds))) (p1 : (prodL ys ds).length ≤ c1 ∧ c1 ≤ maxLen) => spec_MakeZ W W.heap.size (Nat.le_refl _) t A1 _ c1 (prodL ys ds) rfl R1 p1 _ e3)
  have HC5 := hide (fun (W : World) (A1 A2 : Option Addr) (c1 c2 : Nat) (R1 : RdI W W.heap.size A1 (mulZ s xs false es).2.length (mulZ s xs false es).2) (R2 : RdI W W.heap.size A2 (mulZ t ys false ds).2.length (mulZ t ys false ds).2) => spec_l03Cmp W W.heap.size (Nat.le_refl _) (mulZ s xs false es).1 A1 _ c1 (mulZ s xs false es).2 R1 b1 (mulZ t ys false ds).1 A2 _ c2 (mulZ t ys false ds).2 R2 b3)
  have HN1 := hide (mulZ_len s xs false es)
  have HN2 := hide (mulZ_len t ys false ds)
  have HQ1 := hide (mulZ_limbs s xs false es)
  have HQ2 := hide (mulZ_limbs t ys false ds)
  clear RX RD RY RE kx ky hbx hbd hby hbe hr hq e1 e3 b1 b3 hz
  obtain ⟨a0, a1, a2⟩ := HX.out.cells3
  obtain ⟨b0, b1, b2⟩ := HY.out.cells3
  have HS0 : Hid (Below W0.heap.size W0 W0.drew) := (Below.refl _ _).drew
  have HKS := hide (fun (W : World) (hq : Below W0.heap.size W0 W) => (⟨(HX.out.below hq HX.out.lt).cell 0, (HX.out.below hq HX.out.lt).cell 1, (HX.out.below hq HX.out.lt).cell 2, (HY.out.below hq HY.out.lt).cell 0, (HY.out.below hq HY.out.lt).cell 1, (HY.out.below hq HY.out.lt).cell 2⟩ : W.cell? ⟨w.heap.size, 0, none⟩ = some (.bool s) ∧ W.cell? ⟨w.heap.size, 1, none⟩ = some (.slice A n c) ∧ W.cell? ⟨w.heap.size, 2, none⟩ = some (.slice D m k) ∧ W.cell? ⟨w.heap.size + 1, 0, none⟩ = some (.bool t) ∧ W.cell? ⟨w.heap.size + 1, 1, none⟩ = some (.slice A' n' c') ∧ W.cell? ⟨w.heap.size + 1, 2, none⟩ = some (.slice D' m' k')))
  go_enter Tryz.func37, Tryz.ntmps37
  go_upto_region 1 with fail
  rw [← hW0]
  clear hW0
  go_region_held3 (fun w' => w'.cell? ⟨w.heap.size, 0, none⟩ = some (.bool s) ∧ w'.cell? ⟨w.heap.size, 1, none⟩ = some (.slice A n c) ∧ w'.cell? ⟨w.heap.size, 2, none⟩ = some (.slice D m k) ∧ w'.cell? ⟨w.heap.size + 1, 0, none⟩ = some (.bool t) ∧ w'.cell? ⟨w.heap.size + 1, 1, none⟩ = some (.slice A' n' c') ∧ w'.cell? ⟨w.heap.size + 1, 2, none⟩ = some (.slice D' m' k'))
      (first | (with_reducible exact HKS.out _ HS5.out) | (with_reducible exact HKS.out _ HS4.out) | (with_reducible exact HKS.out _ HS3.out) | (with_reducible exact HKS.out _ HS2.out) | (with_reducible exact HKS.out _ HS1.out) | (with_reducible exact HKS.out _ HS0.out))
      (first
        | (go_at_call_has 39 A; refine (HC1.out _ HS0.out).mono ?_; rintro e w1 ⟨v1, rfl, o1, hb1⟩; obtain ⟨A1, c1, rfl⟩ := o1.form; have P1 := hide o1.cap; have q1 := hide o1.rd; have HS1 := hide (below_then HS0.out hb1))
        | (go_at_call_has 50 A1; refine (HC2.out _ _ _ q1.out P1.out).mono ?_; rintro e w2 ⟨v2, rfl, o2, hb2⟩; obtain ⟨A2, c2, rfl⟩ := o2.form; have HS2 := hide (below_then HS1.out hb2))
        | (go_at_call_has 39 A'; refine (HC3.out _ HS2.out).mono ?_; rintro e w3 ⟨v3, rfl, o3, hb3⟩; obtain ⟨A3, c3, rfl⟩ := o3.form; have P3 := hide o3.cap; have q3 := hide o3.rd; have HS3 := hide (below_then HS2.out hb3))
        | (go_at_call_has 50 A3; refine (HC4.out _ _ _ q3.out P3.out).mono ?_; rintro e w4 ⟨v4, rfl, o4, hb4⟩; obtain ⟨A4, c4, rfl⟩ := o4.form; have r1 := RdI.of_own ((own_up (o2.below hb3 (Nat.le_refl _)) (Nat.le_refl _) hb3.size).below hb4 (Nat.le_refl _)) HN1.out HQ1.out; have r2 := RdI.of_own o4 HN2.out HQ2.out; have HS4 := hide (below_then HS3.out hb4))
        | (go_at_call 55; refine (HC5.out _ _ _ _ _ r1 r2).mono ?_; rintro e w5 ⟨rfl, hb5⟩; have HS5 := hide (below_then HS4.out hb5)))
  have hb5' := below_then hb0 HS5.out
  go_wp2_with fail
  go_ret
  exact ⟨rfl, hb5'⟩
end Go.Proofs.YtdcceppednngjaaGreat

/-
  The reference's fractions: contracts (6): l04Add.
-/



namespace Go.Proofs.YtdcceppednngjaaGreat
open Go.RowKit
set_option linter.unusedVariables false
theorem add_ref {s t : Bool} {xs ds ys es : List Int} (h : ratB s xs ds = true) (k : ratB t ys es = true) :
    natB (mulZ s xs false es).2 = true ∧ natB (mulZ t ys false ds).2 = true ∧ natB (capZ (zv (mulZ s xs false es).1 (mulZ s xs false es).2 + zv (mulZ t ys false ds).1 (mulZ t ys false ds).2)).2 = true ∧ natB (prodL ds es) = true ∧
    lowR (zv (capZ (zv (mulZ s xs false es).1 (mulZ s xs false es).2 + zv (mulZ t ys false ds).1 (mulZ t ys false ds).2)).1 (capZ (zv (mulZ s xs false es).1 (mulZ s xs false es).2 + zv (mulZ t ys false ds).1 (mulZ t ys false ds).2)).2) (natV (prodL ds es)) = lowR (zv s xs * val es + zv t ys * val ds) (natV ds * natV es) := by
  have e1 := num_mulZ (ratB_big h) (ratB_den k)
  have e2 := num_mulZ (ratB_big k) (ratB_den h)
  obtain ⟨_, a2, a3, _⟩ := capZ_back (lt60 (numB h k))
  obtain ⟨_, b2, b3, _⟩ := capZ_back (lt60 (numB k h))
  have hl : (zv s xs * val es + zv t ys * val ds).natAbs < 1000000000 ^ 60 := by
    have h1 := numB h k
    have h2 := numB k h
    have h3 := pow48
    have h4 := Int.natAbs_add_le (zv s xs * val es) (zv t ys * val ds)
    omega
  obtain ⟨_, c2, c3, _⟩ := capZ_back hl
  obtain ⟨d1, d2⟩ := prodL_ok (ratB_den h) (ratB_den k) (ratB_short h).2 (ratB_short k).2
  rw [e1, e2, a2, b2, c2, d2]
  exact ⟨a3, b3, c3, d1, rfl⟩
theorem add_ref1 {s t : Bool} {xs ds ys es : List Int} (h : ratB s xs ds = true) (k : ratB t ys es = true) (h1 : ds = [1]) (k1 : es = [1]) :
    natB (capZ (zv s xs + zv t ys)).2 = true ∧ lowR (zv (capZ (zv s xs + zv t ys)).1 (capZ (zv s xs + zv t ys)).2) (natV [1]) = lowR (zv s xs * val es + zv t ys * val ds) (natV ds * natV es) := by
  subst h1; subst k1
  have hl : (zv s xs + zv t ys).natAbs < 1000000000 ^ 60 := by
    have h1 := numB h k
    have h2 := numB k h
    have h3 := pow48
    simp only [val, Int.mul_zero, Int.add_zero, Int.mul_one] at h1 h2
    have h4 := Int.natAbs_add_le (zv s xs) (zv t ys)
    omega
  obtain ⟨_, c2, c3, _⟩ := capZ_back hl
  rw [c2]
  refine ⟨c3, ?_⟩
  simp [val, natV]
theorem one_nat : natB [1] = true := by decide
set_option maxRecDepth 100000 in
set_option maxHeartbeats 6400000 in
theorem spec_ratAdd (w : World) (B : Nat) (hB : B ≤ w.heap.size) (s : Bool) (A : Option Addr) (n c : Nat) (xs : List Int) (Rx : RdI w B A n xs) (D : Option Addr) (m k : Nat) (ds : List Int) (Rd' : RdI w B D m ds) (hr : ratB s xs ds = true) (t : Bool) (A' : Option Addr) (n' c' : Nat) (ys : List Int) (Ry : RdI w B A' n' ys) (D' : Option Addr) (m' k' : Nat) (es : List Int) (Re' : RdI w B D' m' es) (hq : ratB t ys es = true) :
    Calls Tryz.prog 40 #[.agg #[.bool s, .slice A n c, .slice D m k], .agg #[.bool t, .slice A' n' c', .slice D' m' k']] w fun e w' => RatRes 3 w w' e (lowR (zv s xs * val es + zv t ys * val ds) (natV ds * natV es)) := by
  obtain ⟨ga, gb, gs, gp, hz⟩ := add_ref hr hq
  have hz1 := hide (fun (h1 : ds = [1]) (k1 : es = [1]) => add_ref1 hr hq h1 k1)
  generalize lowR (zv s xs * val es + zv t ys * val ds) (natV ds * natV es) = Z at hz hz1 ⊢
  have HZ2 := hide hz
  clear hz
  obtain ⟨W0, hW0⟩ : ∃ W0, W0 = (((w.alloc (.cells #[.bool s, .slice A n c, .slice D m k] 30)).alloc (.cells #[.bool t, .slice A' n' c', .slice D' m' k'] 30)).alloc (.cells #[.bool false, .slice none 0 0, .slice none 0 0] 30)) := ⟨_, rfl⟩
  have hb0 : Below w.heap.size w W0 := by rw [hW0]; exact below_alloc (below_alloc (below_new _ _) _) _
  have kx : Box W0 (w.heap.size) 30 #[.bool s, .slice A n c, .slice D m k] := by rw [hW0]; exact ((Box.last _ _ _ rfl).alloc _).alloc _
  have ky : Box W0 (w.heap.size + 1) 30 #[.bool t, .slice A' n' c', .slice D' m' k'] := by rw [hW0]; exact (Box.last _ _ _ (alloc_size _ _).symm).alloc _
  have kr : Box W0 (w.heap.size + 2) 30 #[.bool false, .slice none 0 0, .slice none 0 0] := by rw [hW0]; exact Box.last _ _ _ (by rw [alloc_size, alloc_size])
  have hs0 : W0.heap.size = w.heap.size + 3 := by rw [hW0, alloc_size, alloc_size, alloc_size]
  have HX := hide kx
  have HY := hide ky
  have RX := Rx.below (hb0.mono hB)
  have RD := Rd'.below (hb0.mono hB)
  have RY := Ry.below (hb0.mono hB)
  have RE := Re'.below (hb0.mono hB)
  have hbx := bigB_nat (ratB_big hr)
  have hbd := ratB_den hr
  have hby := bigB_nat (ratB_big hq)
  have hbe := ratB_den hq
  have HRR := hide kr
  have l1 := prodL_len hbx hbe
  have l2 := prodL_len hby hbd
  have l3 := prodL_len hbd hbe
  have e1 := make_mulZ (ratB_big hr) hbe
  have e3 := make_mulZ (ratB_big hq) hbd
  have HL3 := hide l3
  clear kx ky kr hr hq l1 l2 l3
  have HO1 := hide (spec_One W0 B (by omega) D m k ds RD)
  have HO2 := hide (spec_One W0 B (by omega) D' m' k' es RE)
  obtain ⟨a0, a1, a2⟩ := HX.out.cells3
  obtain ⟨b0, b1, b2⟩ := HY.out.cells3
  go_enter Tryz.func40, Tryz.ntmps40
  go_upto_region 1 with fail
  rw [← hW0]
  clear hW0
  go_cut [16] from 9 to 61 (fun c wx => c = .bool (decide (ds = [1]) && decide (es = [1])) ∧ W0 = wx)
  case first =>
    go_wp2_with fail
    refine HO1.out.mono ?_
    rintro e w1 ⟨rfl, rfl⟩
    by_cases h1 : ds = [1]
    · have d1 : decide (ds = [1]) = true := decide_eq_true h1
      rw [d1]
      have HD := hide d1
      clear d1 h1 hz1 HZ2
      go_wp2_with fail
      refine HO2.out.mono ?_
      rintro e w1 ⟨rfl, rfl⟩
      go_wp2_with fail
      go_meet
      case rel => exact ⟨by rw [HD.out]; rfl, rfl⟩
    · have d1 : decide (ds = [1]) = false := decide_eq_false h1
      rw [d1]
      have HD := hide d1
      clear d1 h1 hz1 HZ2
      go_wp2_with fail
      go_meet
      case rel => exact ⟨by rw [HD.out]; rfl, rfl⟩
  case rest =>
    obtain ⟨hc, hw⟩ := hcut
    subst hw
    subst hc
    clear HO1 HO2
    by_cases hone : (decide (ds = [1]) && decide (es = [1])) = true
    · rw [hone]
      simp only [Bool.and_eq_true, decide_eq_true_eq] at hone
      obtain ⟨gn, hz⟩ := hz1.out hone.1 hone.2
      subst hz
      clear HZ2 hz1 hone ga gb gs gp e1 e3 HL3
      go_wp2_with fail
      refine (spec_l03Add W0 B (by omega) s A n c xs RX hbx t A' n' c' ys RY hby).mono ?_
      rintro e w1 ⟨v1, rfl, o1, hb1⟩
      obtain ⟨A1, c1, rfl⟩ := o1.form
      have hs1 := hb1.size
      have cp := hide o1.cap
      have ln := ofZ_len (zv s xs + zv t ys)
      have lq := capZ_limbs (zv s xs + zv t ys)
      have kr1 := HRR.out.below hb1 HRR.out.lt
      have hb1' := below_then hb0 hb1
      obtain ⟨w2, hw2⟩ : ∃ x, x = (w1.alloc (.cells #[.bool (capZ (zv s xs + zv t ys)).1, .slice A1 (capZ (zv s xs + zv t ys)).2.length c1] 28)) := ⟨_, rfl⟩
      obtain ⟨w3, hw3⟩ : ∃ x, x = w2.alloc (.cells #[.int .i64 1] 3) := ⟨_, rfl⟩
      have k2 : Box w2 w1.heap.size 28 #[.bool (capZ (zv s xs + zv t ys)).1, .slice A1 (capZ (zv s xs + zv t ys)).2.length c1] := by rw [hw2]; exact Box.last _ _ _ rfl
      have hb2 : Below w1.heap.size w1 w2 := by rw [hw2]; exact below_new _ _
      have hb3 : Below w2.heap.size w2 w3 := by rw [hw3]; exact below_new _ _
      have one3 : w3.ownsRow w2.heap.size 3 1 (.slice (some ⟨w2.heap.size, 0, none⟩) 1 1) 1 (iv [1]) := by rw [hw3]; exact own_one w2 3 (.int .i64 1)
      have hs2 := hb2.size
      have hs3 := hb3.size
      have o3 := (o1.below hb2 (Nat.le_refl _)).below hb3 (by omega)
      have kr3 := (kr1.below hb2 kr1.lt).below hb3 (by have := kr1.lt; omega)
      have hb3' := below_then (below_then hb1' hb2) hb3
      have R1 := pair_rdI (o3.rdB (Nat.le_refl _)) rfl ln lq
      have R2 := RdI.of_own (Own.of one3) (by omega) (Limbs.mk (by omega) Limbs.nil)
      obtain ⟨y0, y1⟩ := k2.cells2
      go_upto_region 3 with fail
      rw [← hw2]
      clear hw2
      go_wp2_with fail
      rw [← hw3]
      clear hw3 y0 y1 k2 hb2 hb3 one3 o1 o3 kr1 hb1 hb1' hb0
      go_wp2_with fail
      refine (spec_Low w3 w3.heap.size (Nat.le_refl _) (capZ (zv s xs + zv t ys)).1 A1 _ c1 (capZ (zv s xs + zv t ys)).2 (pair_up R1 (by omega)) cp.out gn (some ⟨w2.heap.size, 0, none⟩) 1 1 [1] R2 (by unfold maxLen; omega) one_nat).mono ?_
      rintro e w4 ⟨v4, d4, rfl, p4, hb4⟩
      obtain ⟨A4, c4, K4, k4, rfl, rfl⟩ := p4.form
      have kr4 := kr3.below hb4 kr3.lt
      have hb4' := below_then hb3' hb4
      obtain ⟨z0, z1, z2, z3, z4, z5⟩ := kr4.facts3
      have HO := hide (ret_rat kr4 p4 hb4' (x := (lowR (zv (capZ (zv s xs + zv t ys)).1 (capZ (zv s xs + zv t ys)).2) (natV [1])).1.1) (show w.heap.size ≤ w.heap.size + 2 by omega) (by omega))
      clear kr4 p4 hb4' hb4 kr3 R1 R2
      go_wp2_with fail
      refine bodyPost_ret (results_cell_row rfl _ _ (w.heap.size + 2) _ #[.bool (lowR (zv (capZ (zv s xs + zv t ys)).1 (capZ (zv s xs + zv t ys)).2) (natV [1])).1.1, .slice A4 (lowR (zv (capZ (zv s xs + zv t ys)).1 (capZ (zv s xs + zv t ys)).2) (natV [1])).1.2.length c4, .slice K4 (lowR (zv (capZ (zv s xs + zv t ys)).1 (capZ (zv s xs + zv t ys)).2) (natV [1])).2.length k4] (0, 0) _ rfl HO.out.1 Tryz.underlying30 rfl Tryz.sizeRat) rfl ?_
      exact ⟨_, _, rfl, HO.out.2.1, HO.out.2.2⟩
    · have hone : (decide (ds = [1]) && decide (es = [1])) = false := by simpa using hone
      rw [hone]
      have hz := HZ2.out
      subst hz
      clear hone hz1 HZ2 a0 a1 a2 b0 b1 b2
      have HSE := hide hs0
      clear hs0
      obtain ⟨a0, a1, a2⟩ := HX.out.cells3
      obtain ⟨b0, b1, b2⟩ := HY.out.cells3
      have HC1 := hide (fun (W : World) (h : Below W0.heap.size W0 W) => spec_MulO W B (by have := h.size; have := HSE.out; omega) A n c xs (RX.below (h.mono (by have := HSE.out; omega))) hbx D' m' k' es (RE.below (h.mono (by have := HSE.out; omega))) hbe)
      have HC2 := hide (fun (W : World) (A1 : Option Addr) (c1 : Nat) (R1 : Rd W W.heap.size A1 (iv (prodL xs es))) (p1 : (prodL xs es).length ≤ c1 ∧ c1 ≤ maxLen) => spec_MakeZ W W.heap.size (Nat.le_refl _) s A1 _ c1 (prodL xs es) rfl R1 p1 _ e1)
      go_upto_region 4 with fail
      have HKS := hide (fun (W : World) (hq : Below W0.heap.size W0 W) => (⟨(HX.out.below hq HX.out.lt).cell 0, (HX.out.below hq HX.out.lt).cell 1, (HX.out.below hq HX.out.lt).cell 2, (HY.out.below hq HY.out.lt).cell 0, (HY.out.below hq HY.out.lt).cell 1, (HY.out.below hq HY.out.lt).cell 2⟩ : W.cell? ⟨w.heap.size, 0, none⟩ = some (.bool s) ∧ W.cell? ⟨w.heap.size, 1, none⟩ = some (.slice A n c) ∧ W.cell? ⟨w.heap.size, 2, none⟩ = some (.slice D m k) ∧ W.cell? ⟨w.heap.size + 1, 0, none⟩ = some (.bool t) ∧ W.cell? ⟨w.heap.size + 1, 1, none⟩ = some (.slice A' n' c') ∧ W.cell? ⟨w.heap.size + 1, 2, none⟩ = some (.slice D' m' k')))
      have HS0 : Hid (Below W0.heap.size W0 W0.drew) := (Below.refl _ _).drew
      have HS0a : Hid (Below W0.heap.size W0 (W0.alloc (.cells #[.bool false, .slice none 0 0] 28)).drew) := (below_new _ _).drew
      go_cut [6] from 9 to 61 (fun sx wx => VarOk W0 wx sx (mulZ s xs false es).1 (mulZ s xs false es).2 28 3)
      case first =>
        go_region_held3 (fun w' => w'.cell? ⟨w.heap.size, 0, none⟩ = some (.bool s) ∧ w'.cell? ⟨w.heap.size, 1, none⟩ = some (.slice A n c) ∧ w'.cell? ⟨w.heap.size, 2, none⟩ = some (.slice D m k) ∧ w'.cell? ⟨w.heap.size + 1, 0, none⟩ = some (.bool t) ∧ w'.cell? ⟨w.heap.size + 1, 1, none⟩ = some (.slice A' n' c') ∧ w'.cell? ⟨w.heap.size + 1, 2, none⟩ = some (.slice D' m' k'))
            (first | (with_reducible exact HKS.out _ (below_set2 HS2.out HS1.out.size _ _)) | (with_reducible exact HKS.out _ (below_set2 HS2.out (Nat.le_refl _) _ _)) | (with_reducible exact HKS.out _ HS2.out) | (with_reducible exact HKS.out _ (below_alloc HS2.out _)) | (with_reducible exact HKS.out _ HS1.out) | (with_reducible exact HKS.out _ (below_alloc HS1.out _)) | (with_reducible exact HKS.out _ HS0.out) | (with_reducible exact HKS.out _ HS0a.out))
            (first
              | (go_at_call 39; refine (HC1.out _ (by with_reducible first | exact HS0.out | exact HS0a.out)).mono ?_; rintro e u1 ⟨v1, rfl, e1, hb1⟩; obtain ⟨A1, c1, rfl⟩ := e1.form; have P1 := hide e1.cap; have q1 := e1.rd; have hz1 := hb1.size; have HS1 := hide (below_then (by with_reducible first | exact HS0.out | exact HS0a.out) hb1))
              | (go_at_call 50; refine (HC2.out _ _ _ (by first | (with_reducible exact q1) | (with_reducible exact rd_alloc q1 _)) P1.out).mono ?_; rintro e u2 ⟨v2, rfl, e2, hb2⟩; obtain ⟨A2, c2, rfl⟩ := e2.form; have hz2 := hb2.size; have HS2 := hide (below_then (by with_reducible first | exact HS1.out | exact below_alloc HS1.out _) hb2); first | (have kz := kz_new hb2; obtain ⟨t0, t1, z0, z1⟩ := kz.facts) | (have kz := (kz_drew hb1).below hb2 (kz_drew hb1).lt; obtain ⟨t0, t1, z0, z1⟩ := kz.facts) | skip))
        all_goals
          go_wp2_with fail
          go_meet
          case rel =>
            try simp only [drew_size, alloc_size] at hz1 hz2
            first
              | exact varok_set kz HS2.out e2 (by (try simp only [alloc_size]); omega) (Nat.le_refl _) (by omega) (by (try simp only [alloc_size]); omega)
              | exact varok_last HS2.out e2 (by (try simp only [alloc_size]); omega) (Nat.le_refl _)
      case rest =>
        obtain ⟨g, A1, c1, lo, hi, rfl, ks, os, hlo, hhi, hgg, hgl, hbS⟩ := hcut
        obtain ⟨u, hu⟩ : ∃ x, x = wc := ⟨_, rfl⟩
        subst hu
        have hss := hbS.size
        have hb1' := below_then hb0 hbS
        have HX1 := hide (HX.out.below hbS HX.out.lt)
        have HY1 := hide (HY.out.below hbS HY.out.lt)
        have HR1 := hide (HRR.out.below hbS HRR.out.lt)
        have KA := hide ks
        have OA := hide os
        have hga := ks.lt
        have HGA := hide hgg
        have HC3 := hide (fun (W : World) (h : Below u.heap.size u W) => spec_MulO W B (by have := h.size; have := HSE.out; omega) A' n' c' ys ((RY.below (hbS.mono (by have := HSE.out; omega))).below (h.mono (by have := HSE.out; omega))) hby D m k ds ((RD.below (hbS.mono (by have := HSE.out; omega))).below (h.mono (by have := HSE.out; omega))) hbd)
        have HC4 := hide (fun (W : World) (A1 : Option Addr) (c1 : Nat) (R1 : Rd W W.heap.size A1 (iv (prodL ys ds))) (p1 : (prodL ys ds).length ≤ c1 ∧ c1 ≤ maxLen) => spec_MakeZ W W.heap.size (Nat.le_refl _) t A1 _ c1 (prodL ys ds) rfl R1 p1 _ e3)
        clear HKS HS0 HS0a HC1 HC2 a0 a1 a2 b0 b1 b2 ks os
        obtain ⟨a0, a1, a2⟩ := HX1.out.cells3
        obtain ⟨b0, b1, b2⟩ := HY1.out.cells3
        go_upto_region 5 with fail
        have HKS := hide (fun (W : World) (hq : Below u.heap.size u W) => (⟨(HX1.out.below hq HX1.out.lt).cell 0, (HX1.out.below hq HX1.out.lt).cell 1, (HX1.out.below hq HX1.out.lt).cell 2, (HY1.out.below hq HY1.out.lt).cell 0, (HY1.out.below hq HY1.out.lt).cell 1, (HY1.out.below hq HY1.out.lt).cell 2⟩ : W.cell? ⟨w.heap.size, 0, none⟩ = some (.bool s) ∧ W.cell? ⟨w.heap.size, 1, none⟩ = some (.slice A n c) ∧ W.cell? ⟨w.heap.size, 2, none⟩ = some (.slice D m k) ∧ W.cell? ⟨w.heap.size + 1, 0, none⟩ = some (.bool t) ∧ W.cell? ⟨w.heap.size + 1, 1, none⟩ = some (.slice A' n' c') ∧ W.cell? ⟨w.heap.size + 1, 2, none⟩ = some (.slice D' m' k')))
        have HS0 : Hid (Below u.heap.size u u.drew) := (Below.refl _ _).drew
        have HS0a : Hid (Below u.heap.size u (u.alloc (.cells #[.bool false, .slice none 0 0] 28)).drew) := (below_new _ _).drew
        go_cut [7] from 9 to 61 (fun sx wx => VarOk u wx sx (mulZ t ys false ds).1 (mulZ t ys false ds).2 28 3)
        case first =>
          go_region_held3 (fun w' => w'.cell? ⟨w.heap.size, 0, none⟩ = some (.bool s) ∧ w'.cell? ⟨w.heap.size, 1, none⟩ = some (.slice A n c) ∧ w'.cell? ⟨w.heap.size, 2, none⟩ = some (.slice D m k) ∧ w'.cell? ⟨w.heap.size + 1, 0, none⟩ = some (.bool t) ∧ w'.cell? ⟨w.heap.size + 1, 1, none⟩ = some (.slice A' n' c') ∧ w'.cell? ⟨w.heap.size + 1, 2, none⟩ = some (.slice D' m' k'))
              (first | (with_reducible exact HKS.out _ (below_set2 HS2.out HS1.out.size _ _)) | (with_reducible exact HKS.out _ (below_set2 HS2.out (Nat.le_refl _) _ _)) | (with_reducible exact HKS.out _ HS2.out) | (with_reducible exact HKS.out _ (below_alloc HS2.out _)) | (with_reducible exact HKS.out _ HS1.out) | (with_reducible exact HKS.out _ (below_alloc HS1.out _)) | (with_reducible exact HKS.out _ HS0.out) | (with_reducible exact HKS.out _ HS0a.out))
              (first
                | (go_at_call 39; refine (HC3.out _ (by with_reducible first | exact HS0.out | exact HS0a.out)).mono ?_; rintro e u1 ⟨v1, rfl, e1, hb1⟩; obtain ⟨A1, c1, rfl⟩ := e1.form; have P1 := hide e1.cap; have q1 := e1.rd; have hz1 := hb1.size; have HS1 := hide (below_then (by with_reducible first | exact HS0.out | exact HS0a.out) hb1))
                | (go_at_call 50; refine (HC4.out _ _ _ (by first | (with_reducible exact q1) | (with_reducible exact rd_alloc q1 _)) P1.out).mono ?_; rintro e u2 ⟨v2, rfl, e2, hb2⟩; obtain ⟨A2, c2, rfl⟩ := e2.form; have hz2 := hb2.size; have HS2 := hide (below_then (by with_reducible first | exact HS1.out | exact below_alloc HS1.out _) hb2); first | (have kz := kz_new hb2; obtain ⟨t0, t1, z0, z1⟩ := kz.facts) | (have kz := (kz_drew hb1).below hb2 (kz_drew hb1).lt; obtain ⟨t0, t1, z0, z1⟩ := kz.facts) | skip))
          all_goals
            go_wp2_with fail
            go_meet
            case rel =>
              try simp only [drew_size, alloc_size] at hz1 hz2
              first
                | exact varok_set kz HS2.out e2 (by (try simp only [alloc_size]); omega) (Nat.le_refl _) (by omega) (by (try simp only [alloc_size]); omega)
                | exact varok_last HS2.out e2 (by (try simp only [alloc_size]); omega) (Nat.le_refl _)
        case rest =>
          obtain ⟨g', A2, c2, lo', hi', rfl, ks', os', hlo', hhi', hgg', hgl', hbS'⟩ := hcut
          obtain ⟨u2, hu2⟩ : ∃ x, x = wc := ⟨_, rfl⟩
          subst hu2
          have hss' := hbS'.size
          have hb2' := below_then hb1' hbS'
          have ka := KA.out.below hbS' KA.out.lt
          have oa := OA.out.below hbS' hhi
          have HX2 := hide (HX1.out.below hbS' HX1.out.lt)
          have HY2 := hide (HY1.out.below hbS' HY1.out.lt)
          have kr2 := HR1.out.below hbS' HR1.out.lt
          clear HKS HS0 HS0a HC3 HC4 a0 a1 a2 b0 b1 b2 KA OA HX1 HY1 HR1
          have l1 := mulZ_len s xs false es
          have l2 := mulZ_len t ys false ds
          have q1 := mulZ_limbs s xs false es
          have q2 := mulZ_limbs t ys false ds
          obtain ⟨a0, a1⟩ := ka.cells2
          obtain ⟨b0, b1⟩ := ks'.cells2
          go_wp2_with fail
          refine (spec_l03Add u2 u2.heap.size (Nat.le_refl _) (mulZ s xs false es).1 A1 _ c1 (mulZ s xs false es).2 (pair_rdI (oa.rdB (by omega)) rfl l1 q1) ga (mulZ t ys false ds).1 A2 _ c2 (mulZ t ys false ds).2 (pair_rdI (os'.rdB (by omega)) rfl l2 q2) gb).mono ?_
          rintro e w3 ⟨v3, rfl, o3, hb3⟩
          obtain ⟨A3, c3, rfl⟩ := o3.form
          have hs3 := hb3.size
          have CP := hide o3.cap
          have ln := ofZ_len (zv (mulZ s xs false es).1 (mulZ s xs false es).2 + zv (mulZ t ys false ds).1 (mulZ t ys false ds).2)
          have lq := capZ_limbs (zv (mulZ s xs false es).1 (mulZ s xs false es).2 + zv (mulZ t ys false ds).1 (mulZ t ys false ds).2)
          have hb3' := below_then hb2' hb3
          obtain ⟨w4, hw4⟩ : ∃ x, x = w3.alloc (.cells #[.bool (capZ (zv (mulZ s xs false es).1 (mulZ s xs false es).2 + zv (mulZ t ys false ds).1 (mulZ t ys false ds).2)).1, .slice A3 (capZ (zv (mulZ s xs false es).1 (mulZ s xs false es).2 + zv (mulZ t ys false ds).1 (mulZ t ys false ds).2)).2.length c3] 28) := ⟨_, rfl⟩
          have k4 : Box w4 w3.heap.size 28 #[.bool (capZ (zv (mulZ s xs false es).1 (mulZ s xs false es).2 + zv (mulZ t ys false ds).1 (mulZ t ys false ds).2)).1, .slice A3 (capZ (zv (mulZ s xs false es).1 (mulZ s xs false es).2 + zv (mulZ t ys false ds).1 (mulZ t ys false ds).2)).2.length c3] := by rw [hw4]; exact Box.last _ _ _ rfl
          have hb4 : Below w3.heap.size w3 w4 := by rw [hw4]; exact below_new _ _
          have hs4 := hb4.size
          have O4 := hide (o3.below hb4 (Nat.le_refl _))
          have HR4 := hide ((kr2.below hb3 kr2.lt).below hb4 (by have := kr2.lt; omega))
          have HX4 := hide ((HX2.out.below hb3 HX2.out.lt).below hb4 (by have := HX2.out.lt; omega))
          have HY4 := hide ((HY2.out.below hb3 HY2.out.lt).below hb4 (by have := HY2.out.lt; omega))
          have hb4' := below_then hb3' hb4
          have HK4 := hide k4
          have hs0 := HSE.out
          have HC1 := hide (fun (W : World) (h : Below w4.heap.size w4 W) => spec_MulO W B (by have := h.size; omega) D m k ds ((Rd'.below (hb4'.mono hB)).below (h.mono (by omega))) hbd D' m' k' es ((Re'.below (hb4'.mono hB)).below (h.mono (by omega))) hbe)
          have HC3 := hide (fun (W : World) (A1 A2 : Option Addr) (c1 c2 : Nat) (R1 : RdI W W.heap.size A1 (capZ (zv (mulZ s xs false es).1 (mulZ s xs false es).2 + zv (mulZ t ys false ds).1 (mulZ t ys false ds).2)).2.length (capZ (zv (mulZ s xs false es).1 (mulZ s xs false es).2 + zv (mulZ t ys false ds).1 (mulZ t ys false ds).2)).2) (p1 : (capZ (zv (mulZ s xs false es).1 (mulZ s xs false es).2 + zv (mulZ t ys false ds).1 (mulZ t ys false ds).2)).2.length ≤ c1 ∧ c1 ≤ maxLen) (R2 : RdI W W.heap.size A2 (prodL ds es).length (prodL ds es)) (p2 : (prodL ds es).length ≤ c2 ∧ c2 ≤ maxLen) => spec_Low W W.heap.size (Nat.le_refl _) (capZ (zv (mulZ s xs false es).1 (mulZ s xs false es).2 + zv (mulZ t ys false ds).1 (mulZ t ys false ds).2)).1 A1 _ c1 (capZ (zv (mulZ s xs false es).1 (mulZ s xs false es).2 + zv (mulZ t ys false ds).1 (mulZ t ys false ds).2)).2 R1 p1 gs A2 _ c2 (prodL ds es) R2 p2 gp)
          have HLN := hide ln
          have HLQ := hide lq
          go_upto_region 7 with fail
          rw [← hw4]
          clear hw4 ka ks' oa os' kr2 hb3 hb4 hb3' hb2' o3 k4 a0 a1 b0 b1 ln lq HX2 HY2
          obtain ⟨a0, a1, a2⟩ := HX4.out.cells3
          obtain ⟨b0, b1, b2⟩ := HY4.out.cells3
          obtain ⟨y0, y1⟩ := HK4.out.cells2
          have HGA2 := HGA.out
          have HS0 : Hid (Below w4.heap.size w4 w4.drew) := (Below.refl _ _).drew
          have HKS := hide (fun (W : World) (hq : Below w4.heap.size w4 W) => (⟨(HX4.out.below hq HX4.out.lt).cell 0, (HX4.out.below hq HX4.out.lt).cell 1, (HX4.out.below hq HX4.out.lt).cell 2, (HY4.out.below hq HY4.out.lt).cell 0, (HY4.out.below hq HY4.out.lt).cell 1, (HY4.out.below hq HY4.out.lt).cell 2, (HK4.out.below hq HK4.out.lt).cell 0, (HK4.out.below hq HK4.out.lt).cell 1⟩ : W.cell? ⟨w.heap.size, 0, none⟩ = some (.bool s) ∧ W.cell? ⟨w.heap.size, 1, none⟩ = some (.slice A n c) ∧ W.cell? ⟨w.heap.size, 2, none⟩ = some (.slice D m k) ∧ W.cell? ⟨w.heap.size + 1, 0, none⟩ = some (.bool t) ∧ W.cell? ⟨w.heap.size + 1, 1, none⟩ = some (.slice A' n' c') ∧ W.cell? ⟨w.heap.size + 1, 2, none⟩ = some (.slice D' m' k') ∧ W.cell? ⟨w3.heap.size, 0, none⟩ = some (.bool (capZ (zv (mulZ s xs false es).1 (mulZ s xs false es).2 + zv (mulZ t ys false ds).1 (mulZ t ys false ds).2)).1) ∧ W.cell? ⟨w3.heap.size, 1, none⟩ = some (.slice A3 (capZ (zv (mulZ s xs false es).1 (mulZ s xs false es).2 + zv (mulZ t ys false ds).1 (mulZ t ys false ds).2)).2.length c3)))
          have HKR := hide (fun (W : World) (hq : Below w4.heap.size w4 W) => (⟨(HR4.out.below hq HR4.out.lt).cell 0, (HR4.out.below hq HR4.out.lt).cell 1, (HR4.out.below hq HR4.out.lt).cell 2, (HR4.out.below hq HR4.out.lt).frozen 0, (HR4.out.below hq HR4.out.lt).frozen 1, (HR4.out.below hq HR4.out.lt).frozen 2⟩ : W.cell? ⟨w.heap.size + 2, 0, none⟩ = some (.bool false) ∧ W.cell? ⟨w.heap.size + 2, 1, none⟩ = some (.slice none 0 0) ∧ W.cell? ⟨w.heap.size + 2, 2, none⟩ = some (.slice none 0 0) ∧ W.frozen? ⟨w.heap.size + 2, 0, none⟩ = false ∧ W.frozen? ⟨w.heap.size + 2, 1, none⟩ = false ∧ W.frozen? ⟨w.heap.size + 2, 2, none⟩ = false))
          have HKT := hide (fun (W : World) (hq : Below w4.heap.size w4 W) (x y z : Value) => (⟨(((((HX4.out.below hq HX4.out.lt).setv (show w.heap.size ≠ w.heap.size + 2 by omega) 0 x).setv (show w.heap.size ≠ w.heap.size + 2 by omega) 1 y).setv (show w.heap.size ≠ w.heap.size + 2 by omega) 2 z)).cell 0, (((((HX4.out.below hq HX4.out.lt).setv (show w.heap.size ≠ w.heap.size + 2 by omega) 0 x).setv (show w.heap.size ≠ w.heap.size + 2 by omega) 1 y).setv (show w.heap.size ≠ w.heap.size + 2 by omega) 2 z)).cell 1, (((((HX4.out.below hq HX4.out.lt).setv (show w.heap.size ≠ w.heap.size + 2 by omega) 0 x).setv (show w.heap.size ≠ w.heap.size + 2 by omega) 1 y).setv (show w.heap.size ≠ w.heap.size + 2 by omega) 2 z)).cell 2, (((((HY4.out.below hq HY4.out.lt).setv (show w.heap.size + 1 ≠ w.heap.size + 2 by omega) 0 x).setv (show w.heap.size + 1 ≠ w.heap.size + 2 by omega) 1 y).setv (show w.heap.size + 1 ≠ w.heap.size + 2 by omega) 2 z)).cell 0, (((((HY4.out.below hq HY4.out.lt).setv (show w.heap.size + 1 ≠ w.heap.size + 2 by omega) 0 x).setv (show w.heap.size + 1 ≠ w.heap.size + 2 by omega) 1 y).setv (show w.heap.size + 1 ≠ w.heap.size + 2 by omega) 2 z)).cell 1, (((((HY4.out.below hq HY4.out.lt).setv (show w.heap.size + 1 ≠ w.heap.size + 2 by omega) 0 x).setv (show w.heap.size + 1 ≠ w.heap.size + 2 by omega) 1 y).setv (show w.heap.size + 1 ≠ w.heap.size + 2 by omega) 2 z)).cell 2, (((((HK4.out.below hq HK4.out.lt).setv (show w3.heap.size ≠ w.heap.size + 2 by omega) 0 x).setv (show w3.heap.size ≠ w.heap.size + 2 by omega) 1 y).setv (show w3.heap.size ≠ w.heap.size + 2 by omega) 2 z)).cell 0, (((((HK4.out.below hq HK4.out.lt).setv (show w3.heap.size ≠ w.heap.size + 2 by omega) 0 x).setv (show w3.heap.size ≠ w.heap.size + 2 by omega) 1 y).setv (show w3.heap.size ≠ w.heap.size + 2 by omega) 2 z)).cell 1⟩ : (((W.setCell ⟨w.heap.size + 2, 0, none⟩ x).setCell ⟨w.heap.size + 2, 1, none⟩ y).setCell ⟨w.heap.size + 2, 2, none⟩ z).cell? ⟨w.heap.size, 0, none⟩ = some (.bool s) ∧ (((W.setCell ⟨w.heap.size + 2, 0, none⟩ x).setCell ⟨w.heap.size + 2, 1, none⟩ y).setCell ⟨w.heap.size + 2, 2, none⟩ z).cell? ⟨w.heap.size, 1, none⟩ = some (.slice A n c) ∧ (((W.setCell ⟨w.heap.size + 2, 0, none⟩ x).setCell ⟨w.heap.size + 2, 1, none⟩ y).setCell ⟨w.heap.size + 2, 2, none⟩ z).cell? ⟨w.heap.size, 2, none⟩ = some (.slice D m k) ∧ (((W.setCell ⟨w.heap.size + 2, 0, none⟩ x).setCell ⟨w.heap.size + 2, 1, none⟩ y).setCell ⟨w.heap.size + 2, 2, none⟩ z).cell? ⟨w.heap.size + 1, 0, none⟩ = some (.bool t) ∧ (((W.setCell ⟨w.heap.size + 2, 0, none⟩ x).setCell ⟨w.heap.size + 2, 1, none⟩ y).setCell ⟨w.heap.size + 2, 2, none⟩ z).cell? ⟨w.heap.size + 1, 1, none⟩ = some (.slice A' n' c') ∧ (((W.setCell ⟨w.heap.size + 2, 0, none⟩ x).setCell ⟨w.heap.size + 2, 1, none⟩ y).setCell ⟨w.heap.size + 2, 2, none⟩ z).cell? ⟨w.heap.size + 1, 2, none⟩ = some (.slice D' m' k') ∧ (((W.setCell ⟨w.heap.size + 2, 0, none⟩ x).setCell ⟨w.heap.size + 2, 1, none⟩ y).setCell ⟨w.heap.size + 2, 2, none⟩ z).cell? ⟨w3.heap.size, 0, none⟩ = some (.bool (capZ (zv (mulZ s xs false es).1 (mulZ s xs false es).2 + zv (mulZ t ys false ds).1 (mulZ t ys false ds).2)).1) ∧ (((W.setCell ⟨w.heap.size + 2, 0, none⟩ x).setCell ⟨w.heap.size + 2, 1, none⟩ y).setCell ⟨w.heap.size + 2, 2, none⟩ z).cell? ⟨w3.heap.size, 1, none⟩ = some (.slice A3 (capZ (zv (mulZ s xs false es).1 (mulZ s xs false es).2 + zv (mulZ t ys false ds).1 (mulZ t ys false ds).2)).2.length c3)))
          go_region_held3 (fun w' => w'.cell? ⟨w.heap.size, 0, none⟩ = some (.bool s) ∧ w'.cell? ⟨w.heap.size, 1, none⟩ = some (.slice A n c) ∧ w'.cell? ⟨w.heap.size, 2, none⟩ = some (.slice D m k) ∧ w'.cell? ⟨w.heap.size + 1, 0, none⟩ = some (.bool t) ∧ w'.cell? ⟨w.heap.size + 1, 1, none⟩ = some (.slice A' n' c') ∧ w'.cell? ⟨w.heap.size + 1, 2, none⟩ = some (.slice D' m' k') ∧ w'.cell? ⟨w3.heap.size, 0, none⟩ = some (.bool (capZ (zv (mulZ s xs false es).1 (mulZ s xs false es).2 + zv (mulZ t ys false ds).1 (mulZ t ys false ds).2)).1) ∧ w'.cell? ⟨w3.heap.size, 1, none⟩ = some (.slice A3 (capZ (zv (mulZ s xs false es).1 (mulZ s xs false es).2 + zv (mulZ t ys false ds).1 (mulZ t ys false ds).2)).2.length c3))
              (first | (with_reducible exact HKT.out _ HS2.out _ _ _) | (with_reducible exact HKS.out _ HS2.out) | (with_reducible exact HKS.out _ HS1.out) | (with_reducible exact HKS.out _ HS0.out))
              (first
                | (go_at_call 39; refine (HC1.out _ HS0.out).mono ?_; rintro e w5 ⟨v5, rfl, o5, hb1⟩; obtain ⟨A5, c5, rfl⟩ := o5.form; have P5 := hide o5.cap; have o4 := O4.out.below (below_then HS0.out hb1) (by omega); have r1 := pair_rdI (o4.rdB (show w3.heap.size ≤ w5.heap.size by have := hb1.size; (try simp only [drew_size] at this); omega)) rfl HLN.out HLQ.out; have r2 := RdI.of_own o5 HL3.out (prodL_limbs _ _); have HS1 := hide (below_then HS0.out hb1))
                | (go_at_call 38; refine (HC3.out _ _ _ _ _ r1 CP.out r2 P5.out).mono ?_; rintro e w6 ⟨v6, d6, rfl, p6, hb2⟩; obtain ⟨A6, c6, K6, k6, rfl, rfl⟩ := p6.form; have HS2 := hide (below_then HS1.out hb2); obtain ⟨z0, z1, z2, z3, z4, z5⟩ := HKR.out _ HS2.out))
          have hz1 := hb1.size
          have kr6 := HR4.out.below HS2.out HR4.out.lt
          have HO := hide (ret_rat kr6 p6 (below_then hb4' HS2.out) (x := (lowR (zv (capZ (zv (mulZ s xs false es).1 (mulZ s xs false es).2 + zv (mulZ t ys false ds).1 (mulZ t ys false ds).2)).1 (capZ (zv (mulZ s xs false es).1 (mulZ s xs false es).2 + zv (mulZ t ys false ds).1 (mulZ t ys false ds).2)).2) (natV (prodL ds es))).1.1) (show w.heap.size ≤ w.heap.size + 2 by omega) (show w.heap.size + 2 < w5.heap.size by (try simp only [drew_size] at hz1); omega))
          clear o4 o5 r1 r2 p6 hb1 hb2 z0 z1 z2 z3 z4 z5 kr6 hz1
          go_wp2_with fail
          refine bodyPost_ret (results_cell_row rfl _ _ (w.heap.size + 2) _ #[.bool (lowR (zv (capZ (zv (mulZ s xs false es).1 (mulZ s xs false es).2 + zv (mulZ t ys false ds).1 (mulZ t ys false ds).2)).1 (capZ (zv (mulZ s xs false es).1 (mulZ s xs false es).2 + zv (mulZ t ys false ds).1 (mulZ t ys false ds).2)).2) (natV (prodL ds es))).1.1, .slice A6 (lowR (zv (capZ (zv (mulZ s xs false es).1 (mulZ s xs false es).2 + zv (mulZ t ys false ds).1 (mulZ t ys false ds).2)).1 (capZ (zv (mulZ s xs false es).1 (mulZ s xs false es).2 + zv (mulZ t ys false ds).1 (mulZ t ys false ds).2)).2) (natV (prodL ds es))).1.2.length c6, .slice K6 (lowR (zv (capZ (zv (mulZ s xs false es).1 (mulZ s xs false es).2 + zv (mulZ t ys false ds).1 (mulZ t ys false ds).2)).1 (capZ (zv (mulZ s xs false es).1 (mulZ s xs false es).2 + zv (mulZ t ys false ds).1 (mulZ t ys false ds).2)).2) (natV (prodL ds es))).2.length k6] (0, 0) _ rfl HO.out.1 Tryz.underlying30 rfl Tryz.sizeRat) rfl ?_
          exact ⟨_, _, rfl, HO.out.2.1, HO.out.2.2⟩
end Go.Proofs.YtdcceppednngjaaGreat

/-
  The reference's fractions: contracts (7): RatAdd, RatMul, RatSub, RatDiv, RatCmp, RatSign, RatNeg, RatMin, RatMax.
-/

namespace Go.Proofs.YtdcceppednngjaaGreat
open Go.RowKit
set_option linter.unusedVariables false
theorem addR_okR {s t : Bool} {xs ds ys es : List Int} (h : ratB s xs ds = true) (k : ratB t ys es = true) : addR s xs ds t ys es = lowR (zv s xs * val es + zv t ys * val ds) (natV ds * natV es) := by rw [addR, h, k]; rfl
theorem subR_okR {s t : Bool} {xs ds ys es : List Int} (h : ratB s xs ds = true) (k : ratB t ys es = true) : subR s xs ds t ys es = lowR (zv s xs * val es + zv (!t) ys * val ds) (natV ds * natV es) := by rw [subR, h, k]; rfl
theorem mulR_okR {s t : Bool} {xs ds ys es : List Int} (h : ratB s xs ds = true) (k : ratB t ys es = true) : mulR s xs ds t ys es = lowR (zv s xs * zv t ys) (natV ds * natV es) := by rw [mulR, h, k]; rfl
theorem divR_okR {s t : Bool} {xs ds ys es : List Int} (h : ratB s xs ds = true) (k : ratB t ys es = true) : divR s xs ds t ys es = lowR (zv (s != t) xs * val es) (natV ys * natV ds) := by rw [divR, h, k]; rfl
theorem addR_noR {s t : Bool} {xs ds ys es : List Int} (h : ratB s xs ds = false ∨ ratB t ys es = false) : addR s xs ds t ys es = noR := by rw [addR, if_neg]; rcases h with h | h <;> simp [h]
theorem subR_noR {s t : Bool} {xs ds ys es : List Int} (h : ratB s xs ds = false ∨ ratB t ys es = false) : subR s xs ds t ys es = noR := by rw [subR, if_neg]; rcases h with h | h <;> simp [h]
theorem mulR_noR {s t : Bool} {xs ds ys es : List Int} (h : ratB s xs ds = false ∨ ratB t ys es = false) : mulR s xs ds t ys es = noR := by rw [mulR, if_neg]; rcases h with h | h <;> simp [h]
theorem divR_noR {s t : Bool} {xs ds ys es : List Int} (h : ratB s xs ds = false ∨ ratB t ys es = false) : divR s xs ds t ys es = noR := by rw [divR, if_neg]; rcases h with h | h <;> simp [h]
theorem cmpR_noR {s t : Bool} {xs ds ys es : List Int} (h : ratB s xs ds = false ∨ ratB t ys es = false) : cmpR s xs ds t ys es = 0 := by rw [cmpR, if_neg]; rcases h with h | h <;> simp [h]
theorem cmpR_okR {s t : Bool} {xs ds ys es : List Int} (h : ratB s xs ds = true) (k : ratB t ys es = true) : cmpR s xs ds t ys es = cmpW s xs ds t ys es := by rw [cmpR, h, k]; rfl
theorem neg_ratR {t : Bool} {ys es : List Int} (h : ratB t ys es = true) : ratB (!t && !ys.isEmpty) ys es = true := by
  have h1 := (neg_rat h).1
  rw [← negZ_ok (ratB_big h)] at h1
  exact h1
set_option maxRecDepth 100000 in
set_option maxHeartbeats 3200000 in
theorem spec_RatAdd (w : World) (B : Nat) (hB : B ≤ w.heap.size) (s : Bool) (A : Option Addr) (n c : Nat) (xs : List Int) (Rx : RdI w B A n xs) (D : Option Addr) (m k : Nat) (ds : List Int) (Rd' : RdI w B D m ds) (t : Bool) (A' : Option Addr) (n' c' : Nat) (ys : List Int) (Ry : RdI w B A' n' ys) (D' : Option Addr) (m' k' : Nat) (es : List Int) (Re' : RdI w B D' m' es) :
    Calls Tryz.prog 32 #[.agg #[.bool s, .slice A n c, .slice D m k], .agg #[.bool t, .slice A' n' c', .slice D' m' k']] w fun e w' => RatRes 3 w w' e (addR s xs ds t ys es) := by
  have HNO := hide (addR_noR (s := s) (t := t) (xs := xs) (ds := ds) (ys := ys) (es := es))
  have HOK := hide (addR_okR (s := s) (t := t) (xs := xs) (ds := ds) (ys := ys) (es := es))
  generalize addR s xs ds t ys es = Z at HNO HOK ⊢
  obtain ⟨W0, hW0⟩ : ∃ W0, W0 = (((w.alloc (.cells #[.bool s, .slice A n c, .slice D m k] 30)).alloc (.cells #[.bool t, .slice A' n' c', .slice D' m' k'] 30)).alloc (.cells #[.bool false, .slice none 0 0, .slice none 0 0] 30)) := ⟨_, rfl⟩
  have hb0 : Below w.heap.size w W0 := by rw [hW0]; exact below_alloc (below_alloc (below_new _ _) _) _
  have kx : Box W0 (w.heap.size) 30 #[.bool s, .slice A n c, .slice D m k] := by rw [hW0]; exact ((Box.last _ _ _ rfl).alloc _).alloc _
  have ky : Box W0 (w.heap.size + 1) 30 #[.bool t, .slice A' n' c', .slice D' m' k'] := by rw [hW0]; exact (Box.last _ _ _ (alloc_size _ _).symm).alloc _
  have kr : Box W0 (w.heap.size + 2) 30 #[.bool false, .slice none 0 0, .slice none 0 0] := by rw [hW0]; exact Box.last _ _ _ (by rw [alloc_size, alloc_size])
  have hs0 : W0.heap.size = w.heap.size + 3 := by rw [hW0, alloc_size, alloc_size, alloc_size]
  go_enter Tryz.func32, Tryz.ntmps32
  go_upto_region 1 with fail
  rw [← hW0]
  clear hW0
  obtain ⟨a0, a1, a2⟩ := kx.cells3
  obtain ⟨b0, b1, b2⟩ := ky.cells3
  go_wp2_with fail
  refine (spec_RatOk W0 B (by omega) s A n c xs (Rx.below (hb0.mono hB)) D m k ds (Rd'.below (hb0.mono hB))).mono ?_
  rintro e w1 ⟨rfl, hb1⟩
  have kx1 := kx.below hb1 kx.lt
  have ky1 := ky.below hb1 ky.lt
  have kr1 := kr.below hb1 kr.lt
  have hs1 := hb1.size
  have hb1' := below_then hb0 hb1
  clear a0 a1 a2 b0 b1 b2 kx ky hb0 hb1 kr
  by_cases hr : ratB s xs ds = true
  · rw [hr]
    obtain ⟨a0, a1, a2⟩ := kx1.cells3
    obtain ⟨b0, b1, b2⟩ := ky1.cells3
    go_wp2_with fail
    refine (spec_RatOk w1 B (by omega) t A' n' c' ys (Ry.below (hb1'.mono hB)) D' m' k' es (Re'.below (hb1'.mono hB))).mono ?_
    rintro e w2 ⟨rfl, hb2⟩
    have kx2 := kx1.below hb2 kx1.lt
    have ky2 := ky1.below hb2 ky1.lt
    have kr2 := kr1.below hb2 kr1.lt
    have hs2 := hb2.size
    have hb2' := below_then hb1' hb2
    clear a0 a1 a2 b0 b1 b2 kx1 ky1 hb1' hb2 kr1
    by_cases hq : ratB t ys es = true
    · rw [hq]
      have hz := HOK.out hr hq
      obtain ⟨a0, a1, a2⟩ := kx2.cells3
      obtain ⟨b0, b1, b2⟩ := ky2.cells3
      clear HNO HOK
      subst hz
      have HCP := hide (spec_ratAdd w2 B (by omega) s A n c xs (Rx.below (hb2'.mono hB)) D m k ds (Rd'.below (hb2'.mono hB)) hr t A' n' c' ys (Ry.below (hb2'.mono hB)) D' m' k' es (Re'.below (hb2'.mono hB)) hq)
      clear hr hq
      go_wp2_with fail
      refine (HCP.out).mono ?_
      rintro e w3 ⟨v3, d3, rfl, p3, hb3⟩
      obtain ⟨A3, c3, K3, k3, rfl, rfl⟩ := p3.form
      have kr3 := kr2.below hb3 kr2.lt
      have hb3' := below_then hb2' hb3
      obtain ⟨z0, z1, z2, z3, z4, z5⟩ := kr3.facts3
      have HO := hide (ret_rat kr3 p3 hb3' (x := (lowR (zv s xs * val es + zv t ys * val ds) (natV ds * natV es)).1.1) (show w.heap.size ≤ w.heap.size + 2 by omega) (by omega))
      clear kr3 p3 hb3' hb3 kr2 HCP
      go_wp2_with fail
      refine bodyPost_ret (results_cell_row rfl _ _ (w.heap.size + 2) _ #[.bool (lowR (zv s xs * val es + zv t ys * val ds) (natV ds * natV es)).1.1, .slice A3 (lowR (zv s xs * val es + zv t ys * val ds) (natV ds * natV es)).1.2.length c3, .slice K3 (lowR (zv s xs * val es + zv t ys * val ds) (natV ds * natV es)).2.length k3] (0, 0) _ rfl HO.out.1 Tryz.underlying30 rfl Tryz.sizeRat) rfl ?_
      exact ⟨_, _, rfl, HO.out.2.1, HO.out.2.2⟩
    · have hq : ratB t ys es = false := by simpa using hq
      have hz := HNO.out (.inr hq)
      subst hz
      rw [hq]
      clear HNO HOK
      have HO := hide (ret_rat0 (F := 3) kr2 hb2' (show w.heap.size ≤ w.heap.size + 2 by omega))
      obtain ⟨z0, z1, z2, z3, z4, z5⟩ := kr2.facts3
      clear kr2 hb2'
      go_wp2_with fail
      refine bodyPost_ret (results_cell_row rfl _ _ (w.heap.size + 2) _ #[.bool false, .slice none 0 0, .slice none 0 0] (0, 0) _ rfl HO.out.1 Tryz.underlying30 rfl Tryz.sizeRat) rfl ?_
      exact ⟨_, _, rfl, HO.out.2.1, HO.out.2.2⟩
  · have hr : ratB s xs ds = false := by simpa using hr
    have hz := HNO.out (.inl hr)
    subst hz
    rw [hr]
    clear HNO HOK
    have HO := hide (ret_rat0 (F := 3) kr1 hb1' (show w.heap.size ≤ w.heap.size + 2 by omega))
    obtain ⟨z0, z1, z2, z3, z4, z5⟩ := kr1.facts3
    clear kr1 hb1'
    go_wp2_with fail
    refine bodyPost_ret (results_cell_row rfl _ _ (w.heap.size + 2) _ #[.bool false, .slice none 0 0, .slice none 0 0] (0, 0) _ rfl HO.out.1 Tryz.underlying30 rfl Tryz.sizeRat) rfl ?_
    exact ⟨_, _, rfl, HO.out.2.1, HO.out.2.2⟩
set_option maxRecDepth 100000 in
set_option maxHeartbeats 3200000 in
theorem spec_RatMul (w : World) (B : Nat) (hB : B ≤ w.heap.size) (s : Bool) (A : Option Addr) (n c : Nat) (xs : List Int) (Rx : RdI w B A n xs) (D : Option Addr) (m k : Nat) (ds : List Int) (Rd' : RdI w B D m ds) (t : Bool) (A' : Option Addr) (n' c' : Nat) (ys : List Int) (Ry : RdI w B A' n' ys) (D' : Option Addr) (m' k' : Nat) (es : List Int) (Re' : RdI w B D' m' es) :
    Calls Tryz.prog 42 #[.agg #[.bool s, .slice A n c, .slice D m k], .agg #[.bool t, .slice A' n' c', .slice D' m' k']] w fun e w' => RatRes 3 w w' e (mulR s xs ds t ys es) := by
  have HNO := hide (mulR_noR (s := s) (t := t) (xs := xs) (ds := ds) (ys := ys) (es := es))
  have HOK := hide (mulR_okR (s := s) (t := t) (xs := xs) (ds := ds) (ys := ys) (es := es))
  generalize mulR s xs ds t ys es = Z at HNO HOK ⊢
  obtain ⟨W0, hW0⟩ : ∃ W0, W0 = (((w.alloc (.cells #[.bool s, .slice A n c, .slice D m k] 30)).alloc (.cells #[.bool t, .slice A' n' c', .slice D' m' k'] 30)).alloc (.cells #[.bool false, .slice none 0 0, .slice none 0 0] 30)) := ⟨_, rfl⟩
  have hb0 : Below w.heap.size w W0 := by rw [hW0]; exact below_alloc (below_alloc (below_new _ _) _) _
  have kx : Box W0 (w.heap.size) 30 #[.bool s, .slice A n c, .slice D m k] := by rw [hW0]; exact ((Box.last _ _ _ rfl).alloc _).alloc _
  have ky : Box W0 (w.heap.size + 1) 30 #[.bool t, .slice A' n' c', .slice D' m' k'] := by rw [hW0]; exact (Box.last _ _ _ (alloc_size _ _).symm).alloc _
  have kr : Box W0 (w.heap.size + 2) 30 #[.bool false, .slice none 0 0, .slice none 0 0] := by rw [hW0]; exact Box.last _ _ _ (by rw [alloc_size, alloc_size])
  have hs0 : W0.heap.size = w.heap.size + 3 := by rw [hW0, alloc_size, alloc_size, alloc_size]
  go_enter Tryz.func42, Tryz.ntmps42
  go_upto_region 1 with fail
  rw [← hW0]
  clear hW0
  obtain ⟨a0, a1, a2⟩ := kx.cells3
  obtain ⟨b0, b1, b2⟩ := ky.cells3
  go_wp2_with fail
  refine (spec_RatOk W0 B (by omega) s A n c xs (Rx.below (hb0.mono hB)) D m k ds (Rd'.below (hb0.mono hB))).mono ?_
  rintro e w1 ⟨rfl, hb1⟩
  have kx1 := kx.below hb1 kx.lt
  have ky1 := ky.below hb1 ky.lt
  have kr1 := kr.below hb1 kr.lt
  have hs1 := hb1.size
  have hb1' := below_then hb0 hb1
  clear a0 a1 a2 b0 b1 b2 kx ky hb0 hb1 kr
  by_cases hr : ratB s xs ds = true
  · rw [hr]
    obtain ⟨a0, a1, a2⟩ := kx1.cells3
    obtain ⟨b0, b1, b2⟩ := ky1.cells3
    go_wp2_with fail
    refine (spec_RatOk w1 B (by omega) t A' n' c' ys (Ry.below (hb1'.mono hB)) D' m' k' es (Re'.below (hb1'.mono hB))).mono ?_
    rintro e w2 ⟨rfl, hb2⟩
    have kx2 := kx1.below hb2 kx1.lt
    have ky2 := ky1.below hb2 ky1.lt
    have kr2 := kr1.below hb2 kr1.lt
    have hs2 := hb2.size
    have hb2' := below_then hb1' hb2
    clear a0 a1 a2 b0 b1 b2 kx1 ky1 hb1' hb2 kr1
    by_cases hq : ratB t ys es = true
    · rw [hq]
      have hz := HOK.out hr hq
      obtain ⟨a0, a1, a2⟩ := kx2.cells3
      obtain ⟨b0, b1, b2⟩ := ky2.cells3
      clear HNO HOK
      subst hz
      have HCP := hide (spec_ratMul w2 B (by omega) s A n c xs (Rx.below (hb2'.mono hB)) D m k ds (Rd'.below (hb2'.mono hB)) hr t A' n' c' ys (Ry.below (hb2'.mono hB)) D' m' k' es (Re'.below (hb2'.mono hB)) hq)
      clear hr hq
      go_wp2_with fail
      refine (HCP.out).mono ?_
      rintro e w3 ⟨v3, d3, rfl, p3, hb3⟩
      obtain ⟨A3, c3, K3, k3, rfl, rfl⟩ := p3.form
      have kr3 := kr2.below hb3 kr2.lt
      have hb3' := below_then hb2' hb3
      obtain ⟨z0, z1, z2, z3, z4, z5⟩ := kr3.facts3
      have HO := hide (ret_rat kr3 p3 hb3' (x := (lowR (zv s xs * zv t ys) (natV ds * natV es)).1.1) (show w.heap.size ≤ w.heap.size + 2 by omega) (by omega))
      clear kr3 p3 hb3' hb3 kr2 HCP
      go_wp2_with fail
      refine bodyPost_ret (results_cell_row rfl _ _ (w.heap.size + 2) _ #[.bool (lowR (zv s xs * zv t ys) (natV ds * natV es)).1.1, .slice A3 (lowR (zv s xs * zv t ys) (natV ds * natV es)).1.2.length c3, .slice K3 (lowR (zv s xs * zv t ys) (natV ds * natV es)).2.length k3] (0, 0) _ rfl HO.out.1 Tryz.underlying30 rfl Tryz.sizeRat) rfl ?_
      exact ⟨_, _, rfl, HO.out.2.1, HO.out.2.2⟩
    · have hq : ratB t ys es = false := by simpa using hq
      have hz := HNO.out (.inr hq)
      subst hz
      rw [hq]
      clear HNO HOK
      have HO := hide (ret_rat0 (F := 3) kr2 hb2' (show w.heap.size ≤ w.heap.size + 2 by omega))
      obtain ⟨z0, z1, z2, z3, z4, z5⟩ := kr2.facts3
      clear kr2 hb2'
      go_wp2_with fail
      refine bodyPost_ret (results_cell_row rfl _ _ (w.heap.size + 2) _ #[.bool false, .slice none 0 0, .slice none 0 0] (0, 0) _ rfl HO.out.1 Tryz.underlying30 rfl Tryz.sizeRat) rfl ?_
      exact ⟨_, _, rfl, HO.out.2.1, HO.out.2.2⟩
  · have hr : ratB s xs ds = false := by simpa using hr
    have hz := HNO.out (.inl hr)
    subst hz
    rw [hr]
    clear HNO HOK
    have HO := hide (ret_rat0 (F := 3) kr1 hb1' (show w.heap.size ≤ w.heap.size + 2 by omega))
    obtain ⟨z0, z1, z2, z3, z4, z5⟩ := kr1.facts3
    clear kr1 hb1'
    go_wp2_with fail
    refine bodyPost_ret (results_cell_row rfl _ _ (w.heap.size + 2) _ #[.bool false, .slice none 0 0, .slice none 0 0] (0, 0) _ rfl HO.out.1 Tryz.underlying30 rfl Tryz.sizeRat) rfl ?_
    exact ⟨_, _, rfl, HO.out.2.1, HO.out.2.2⟩
set_option maxRecDepth 100000 in
set_option maxHeartbeats 3200000 in
theorem spec_RatSub (w : World) (B : Nat) (hB : B ≤ w.heap.size) (s : Bool) (A : Option Addr) (n c : Nat) (xs : List Int) (Rx : RdI w B A n xs) (D : Option Addr) (m k : Nat) (ds : List Int) (Rd' : RdI w B D m ds) (t : Bool) (A' : Option Addr) (n' c' : Nat) (ys : List Int) (Ry : RdI w B A' n' ys) (D' : Option Addr) (m' k' : Nat) (es : List Int) (Re' : RdI w B D' m' es) (hcy : n' ≤ c' ∧ c' ≤ maxLen) :
    Calls Tryz.prog 18 #[.agg #[.bool s, .slice A n c, .slice D m k], .agg #[.bool t, .slice A' n' c', .slice D' m' k']] w fun e w' => RatRes 3 w w' e (subR s xs ds t ys es) := by
  have HNO := hide (subR_noR (s := s) (t := t) (xs := xs) (ds := ds) (ys := ys) (es := es))
  have HOK := hide (subR_okR (s := s) (t := t) (xs := xs) (ds := ds) (ys := ys) (es := es))
  generalize subR s xs ds t ys es = Z at HNO HOK ⊢
  obtain ⟨W0, hW0⟩ : ∃ W0, W0 = (((w.alloc (.cells #[.bool s, .slice A n c, .slice D m k] 30)).alloc (.cells #[.bool t, .slice A' n' c', .slice D' m' k'] 30)).alloc (.cells #[.bool false, .slice none 0 0, .slice none 0 0] 30)) := ⟨_, rfl⟩
  have hb0 : Below w.heap.size w W0 := by rw [hW0]; exact below_alloc (below_alloc (below_new _ _) _) _
  have kx : Box W0 (w.heap.size) 30 #[.bool s, .slice A n c, .slice D m k] := by rw [hW0]; exact ((Box.last _ _ _ rfl).alloc _).alloc _
  have ky : Box W0 (w.heap.size + 1) 30 #[.bool t, .slice A' n' c', .slice D' m' k'] := by rw [hW0]; exact (Box.last _ _ _ (alloc_size _ _).symm).alloc _
  have kr : Box W0 (w.heap.size + 2) 30 #[.bool false, .slice none 0 0, .slice none 0 0] := by rw [hW0]; exact Box.last _ _ _ (by rw [alloc_size, alloc_size])
  have hs0 : W0.heap.size = w.heap.size + 3 := by rw [hW0, alloc_size, alloc_size, alloc_size]
  go_enter Tryz.func18, Tryz.ntmps18
  go_upto_region 1 with fail
  rw [← hW0]
  clear hW0
  obtain ⟨a0, a1, a2⟩ := kx.cells3
  obtain ⟨b0, b1, b2⟩ := ky.cells3
  go_wp2_with fail
  refine (spec_RatOk W0 B (by omega) s A n c xs (Rx.below (hb0.mono hB)) D m k ds (Rd'.below (hb0.mono hB))).mono ?_
  rintro e w1 ⟨rfl, hb1⟩
  have kx1 := kx.below hb1 kx.lt
  have ky1 := ky.below hb1 ky.lt
  have kr1 := kr.below hb1 kr.lt
  have hs1 := hb1.size
  have hb1' := below_then hb0 hb1
  clear a0 a1 a2 b0 b1 b2 kx ky hb0 hb1 kr
  by_cases hr : ratB s xs ds = true
  · rw [hr]
    obtain ⟨a0, a1, a2⟩ := kx1.cells3
    obtain ⟨b0, b1, b2⟩ := ky1.cells3
    go_wp2_with fail
    refine (spec_RatOk w1 B (by omega) t A' n' c' ys (Ry.below (hb1'.mono hB)) D' m' k' es (Re'.below (hb1'.mono hB))).mono ?_
    rintro e w2 ⟨rfl, hb2⟩
    have kx2 := kx1.below hb2 kx1.lt
    have ky2 := ky1.below hb2 ky1.lt
    have kr2 := kr1.below hb2 kr1.lt
    have hs2 := hb2.size
    have hb2' := below_then hb1' hb2
    clear a0 a1 a2 b0 b1 b2 kx1 ky1 hb1' hb2 kr1
    by_cases hq : ratB t ys es = true
    · rw [hq]
      have hz := HOK.out hr hq
      obtain ⟨a0, a1, a2⟩ := kx2.cells3
      obtain ⟨b0, b1, b2⟩ := ky2.cells3
      clear HNO HOK
      have hl : zv (!t && !ys.isEmpty) ys = zv (!t) ys := zv_norm _ _
      rw [← hl] at hz
      clear hl
      subst hz
      have hq2 := neg_ratR hq
      have hyb := bigB_nat (ratB_big hq)
      have hel := Re'.1
      have hyl := Ry.1
      have HX := hide kx2
      have HY := hide ky2
      have HRR := hide kr2
      have RX := Rx.below (hb2'.mono hB)
      have RD := Rd'.below (hb2'.mono hB)
      have RY := Ry.below (hb2'.mono hB)
      have RE := Re'.below (hb2'.mono hB)
      have HC1 := hide (fun (W : World) (h : Below w2.heap.size w2 W) => spec_Neg W B (by have := h.size; omega) t A' n' c' ys (RY.below (h.mono (by omega))) D' m' k' es (RE.below (h.mono (by omega))) hcy hyb)
      have HC2 := hide (fun (W : World) (h : Below w2.heap.size w2 W) (A1 A2 : Option Addr) (c1 c2 : Nat) (R1 : RdI W W.heap.size A1 ys.length ys) (R2 : RdI W W.heap.size A2 es.length es) => spec_ratAdd W W.heap.size (Nat.le_refl _) s A n c xs (pair_up (RX.below (h.mono (by omega))) (by have := h.size; omega)) D m k ds (pair_up (RD.below (h.mono (by omega))) (by have := h.size; omega)) hr (!t && !ys.isEmpty) A1 _ c1 ys R1 A2 _ c2 es R2 hq2)
      have HYR := hide (show RdI w2 B A' ys.length ys from ⟨rfl, RY.2.1, by have := RY.2.2.1; omega, RY.2.2.2⟩)
      have HER := hide (show RdI w2 B D' es.length es from ⟨rfl, RE.2.1, by have := RE.2.2.1; omega, RE.2.2.2⟩)
      clear RX RD RY RE kx2 ky2 kr2 hr hq hq2 hyb hel hyl hcy
      have HS0 : Hid (Below w2.heap.size w2 w2.drew) := (Below.refl _ _).drew
      have HKS := hide (fun (W : World) (hq : Below w2.heap.size w2 W) => (⟨(HX.out.below hq HX.out.lt).cell 0, (HX.out.below hq HX.out.lt).cell 1, (HX.out.below hq HX.out.lt).cell 2, (HY.out.below hq HY.out.lt).cell 0, (HY.out.below hq HY.out.lt).cell 1, (HY.out.below hq HY.out.lt).cell 2⟩ : W.cell? ⟨w.heap.size, 0, none⟩ = some (.bool s) ∧ W.cell? ⟨w.heap.size, 1, none⟩ = some (.slice A n c) ∧ W.cell? ⟨w.heap.size, 2, none⟩ = some (.slice D m k) ∧ W.cell? ⟨w.heap.size + 1, 0, none⟩ = some (.bool t) ∧ W.cell? ⟨w.heap.size + 1, 1, none⟩ = some (.slice A' n' c') ∧ W.cell? ⟨w.heap.size + 1, 2, none⟩ = some (.slice D' m' k')))
      have HKR := hide (fun (W : World) (hq : Below w2.heap.size w2 W) => (⟨(HRR.out.below hq HRR.out.lt).cell 0, (HRR.out.below hq HRR.out.lt).cell 1, (HRR.out.below hq HRR.out.lt).cell 2, (HRR.out.below hq HRR.out.lt).frozen 0, (HRR.out.below hq HRR.out.lt).frozen 1, (HRR.out.below hq HRR.out.lt).frozen 2⟩ : W.cell? ⟨w.heap.size + 2, 0, none⟩ = some (.bool false) ∧ W.cell? ⟨w.heap.size + 2, 1, none⟩ = some (.slice none 0 0) ∧ W.cell? ⟨w.heap.size + 2, 2, none⟩ = some (.slice none 0 0) ∧ W.frozen? ⟨w.heap.size + 2, 0, none⟩ = false ∧ W.frozen? ⟨w.heap.size + 2, 1, none⟩ = false ∧ W.frozen? ⟨w.heap.size + 2, 2, none⟩ = false))
      have HKT := hide (fun (W : World) (hq : Below w2.heap.size w2 W) (x y z : Value) => (⟨(((((HX.out.below hq HX.out.lt).setv (show w.heap.size ≠ w.heap.size + 2 by omega) 0 x).setv (show w.heap.size ≠ w.heap.size + 2 by omega) 1 y).setv (show w.heap.size ≠ w.heap.size + 2 by omega) 2 z)).cell 0, (((((HX.out.below hq HX.out.lt).setv (show w.heap.size ≠ w.heap.size + 2 by omega) 0 x).setv (show w.heap.size ≠ w.heap.size + 2 by omega) 1 y).setv (show w.heap.size ≠ w.heap.size + 2 by omega) 2 z)).cell 1, (((((HX.out.below hq HX.out.lt).setv (show w.heap.size ≠ w.heap.size + 2 by omega) 0 x).setv (show w.heap.size ≠ w.heap.size + 2 by omega) 1 y).setv (show w.heap.size ≠ w.heap.size + 2 by omega) 2 z)).cell 2, (((((HY.out.below hq HY.out.lt).setv (show w.heap.size + 1 ≠ w.heap.size + 2 by omega) 0 x).setv (show w.heap.size + 1 ≠ w.heap.size + 2 by omega) 1 y).setv (show w.heap.size + 1 ≠ w.heap.size + 2 by omega) 2 z)).cell 0, (((((HY.out.below hq HY.out.lt).setv (show w.heap.size + 1 ≠ w.heap.size + 2 by omega) 0 x).setv (show w.heap.size + 1 ≠ w.heap.size + 2 by omega) 1 y).setv (show w.heap.size + 1 ≠ w.heap.size + 2 by omega) 2 z)).cell 1, (((((HY.out.below hq HY.out.lt).setv (show w.heap.size + 1 ≠ w.heap.size + 2 by omega) 0 x).setv (show w.heap.size + 1 ≠ w.heap.size + 2 by omega) 1 y).setv (show w.heap.size + 1 ≠ w.heap.size + 2 by omega) 2 z)).cell 2⟩ : (((W.setCell ⟨w.heap.size + 2, 0, none⟩ x).setCell ⟨w.heap.size + 2, 1, none⟩ y).setCell ⟨w.heap.size + 2, 2, none⟩ z).cell? ⟨w.heap.size, 0, none⟩ = some (.bool s) ∧ (((W.setCell ⟨w.heap.size + 2, 0, none⟩ x).setCell ⟨w.heap.size + 2, 1, none⟩ y).setCell ⟨w.heap.size + 2, 2, none⟩ z).cell? ⟨w.heap.size, 1, none⟩ = some (.slice A n c) ∧ (((W.setCell ⟨w.heap.size + 2, 0, none⟩ x).setCell ⟨w.heap.size + 2, 1, none⟩ y).setCell ⟨w.heap.size + 2, 2, none⟩ z).cell? ⟨w.heap.size, 2, none⟩ = some (.slice D m k) ∧ (((W.setCell ⟨w.heap.size + 2, 0, none⟩ x).setCell ⟨w.heap.size + 2, 1, none⟩ y).setCell ⟨w.heap.size + 2, 2, none⟩ z).cell? ⟨w.heap.size + 1, 0, none⟩ = some (.bool t) ∧ (((W.setCell ⟨w.heap.size + 2, 0, none⟩ x).setCell ⟨w.heap.size + 2, 1, none⟩ y).setCell ⟨w.heap.size + 2, 2, none⟩ z).cell? ⟨w.heap.size + 1, 1, none⟩ = some (.slice A' n' c') ∧ (((W.setCell ⟨w.heap.size + 2, 0, none⟩ x).setCell ⟨w.heap.size + 2, 1, none⟩ y).setCell ⟨w.heap.size + 2, 2, none⟩ z).cell? ⟨w.heap.size + 1, 2, none⟩ = some (.slice D' m' k')))
      go_wp2_with fail
      go_region_held3 (fun w' => w'.cell? ⟨w.heap.size, 0, none⟩ = some (.bool s) ∧ w'.cell? ⟨w.heap.size, 1, none⟩ = some (.slice A n c) ∧ w'.cell? ⟨w.heap.size, 2, none⟩ = some (.slice D m k) ∧ w'.cell? ⟨w.heap.size + 1, 0, none⟩ = some (.bool t) ∧ w'.cell? ⟨w.heap.size + 1, 1, none⟩ = some (.slice A' n' c') ∧ w'.cell? ⟨w.heap.size + 1, 2, none⟩ = some (.slice D' m' k'))
          (first | (with_reducible exact HKT.out _ HS2.out _ _ _) | (with_reducible exact HKS.out _ HS2.out) | (with_reducible exact HKS.out _ HS1.out) | (with_reducible exact HKS.out _ HS0.out))
          (first
            | (go_at_call 41; refine (HC1.out _ HS0.out).mono ?_; rintro e w3 ⟨v1, d1, rfl, p1, hb1⟩; obtain ⟨A1, c1, K1, k1, rfl, rfl⟩ := p1.form; have r1 := HYR.out.at_ p1.rd.1; have r2 := HER.out.at_ p1.rd.2; have HS1 := hide (below_then HS0.out hb1))
            | (go_at_call 40; refine (HC2.out _ HS1.out _ _ _ _ r1 r2).mono ?_; rintro e w4 ⟨v3, d3, rfl, p3, hb2⟩; obtain ⟨A3, c3, K3, k3, rfl, rfl⟩ := p3.form; have HS2 := hide (below_then HS1.out hb2); obtain ⟨z0, z1, z2, z3, z4, z5⟩ := HKR.out _ HS2.out))
      have hz1 := hb1.size
      have kr3 := HRR.out.below HS2.out HRR.out.lt
      have HO := hide (ret_rat kr3 p3 (below_then hb2' HS2.out) (x := (lowR (zv s xs * val es + zv (!t && !ys.isEmpty) ys * val ds) (natV ds * natV es)).1.1) (show w.heap.size ≤ w.heap.size + 2 by omega) (show w.heap.size + 2 < w3.heap.size by (try simp only [drew_size] at hz1); omega))
      clear p1 r1 r2 p3 hb1 hb2 z0 z1 z2 z3 z4 z5 kr3 hz1
      go_wp2_with fail
      refine bodyPost_ret (results_cell_row rfl _ _ (w.heap.size + 2) _ #[.bool (lowR (zv s xs * val es + zv (!t && !ys.isEmpty) ys * val ds) (natV ds * natV es)).1.1, .slice A3 (lowR (zv s xs * val es + zv (!t && !ys.isEmpty) ys * val ds) (natV ds * natV es)).1.2.length c3, .slice K3 (lowR (zv s xs * val es + zv (!t && !ys.isEmpty) ys * val ds) (natV ds * natV es)).2.length k3] (0, 0) _ rfl HO.out.1 Tryz.underlying30 rfl Tryz.sizeRat) rfl ?_
      exact ⟨_, _, rfl, HO.out.2.1, HO.out.2.2⟩
    · have hq : ratB t ys es = false := by simpa using hq
      have hz := HNO.out (.inr hq)
      subst hz
      rw [hq]
      clear HNO HOK
      have HO := hide (ret_rat0 (F := 3) kr2 hb2' (show w.heap.size ≤ w.heap.size + 2 by omega))
      obtain ⟨z0, z1, z2, z3, z4, z5⟩ := kr2.facts3
      clear kr2 hb2'
      go_wp2_with fail
      refine bodyPost_ret (results_cell_row rfl _ _ (w.heap.size + 2) _ #[.bool false, .slice none 0 0, .slice none 0 0] (0, 0) _ rfl HO.out.1 Tryz.underlying30 rfl Tryz.sizeRat) rfl ?_
      exact ⟨_, _, rfl, HO.out.2.1, HO.out.2.2⟩
  · have hr : ratB s xs ds = false := by simpa using hr
    have hz := HNO.out (.inl hr)
    subst hz
    rw [hr]
    clear HNO HOK
    have HO := hide (ret_rat0 (F := 3) kr1 hb1' (show w.heap.size ≤ w.heap.size + 2 by omega))
    obtain ⟨z0, z1, z2, z3, z4, z5⟩ := kr1.facts3
    clear kr1 hb1'
    go_wp2_with fail
    refine bodyPost_ret (results_cell_row rfl _ _ (w.heap.size + 2) _ #[.bool false, .slice none 0 0, .slice none 0 0] (0, 0) _ rfl HO.out.1 Tryz.underlying30 rfl Tryz.sizeRat) rfl ?_
    exact ⟨_, _, rfl, HO.out.2.1, HO.out.2.2⟩
set_option maxRecDepth 100000 in
set_option maxHeartbeats 3200000 in
theorem spec_RatDiv (w : World) (B : Nat) (hB : B ≤ w.heap.size) (s : Bool) (A : Option Addr) (n c : Nat) (xs : List Int) (Rx : RdI w B A n xs) (D : Option Addr) (m k : Nat) (ds : List Int) (Rd' : RdI w B D m ds) (t : Bool) (A' : Option Addr) (n' c' : Nat) (ys : List Int) (Ry : RdI w B A' n' ys) (D' : Option Addr) (m' k' : Nat) (es : List Int) (Re' : RdI w B D' m' es) :
    Calls Tryz.prog 17 #[.agg #[.bool s, .slice A n c, .slice D m k], .agg #[.bool t, .slice A' n' c', .slice D' m' k']] w fun e w' => RatRes 3 w w' e (divR s xs ds t ys es) := by
  have HNO := hide (divR_noR (s := s) (t := t) (xs := xs) (ds := ds) (ys := ys) (es := es))
  have HOK := hide (divR_okR (s := s) (t := t) (xs := xs) (ds := ds) (ys := ys) (es := es))
  generalize divR s xs ds t ys es = Z at HNO HOK ⊢
  obtain ⟨W0, hW0⟩ : ∃ W0, W0 = (((w.alloc (.cells #[.bool s, .slice A n c, .slice D m k] 30)).alloc (.cells #[.bool t, .slice A' n' c', .slice D' m' k'] 30)).alloc (.cells #[.bool false, .slice none 0 0, .slice none 0 0] 30)) := ⟨_, rfl⟩
  have hb0 : Below w.heap.size w W0 := by rw [hW0]; exact below_alloc (below_alloc (below_new _ _) _) _
  have kx : Box W0 (w.heap.size) 30 #[.bool s, .slice A n c, .slice D m k] := by rw [hW0]; exact ((Box.last _ _ _ rfl).alloc _).alloc _
  have ky : Box W0 (w.heap.size + 1) 30 #[.bool t, .slice A' n' c', .slice D' m' k'] := by rw [hW0]; exact (Box.last _ _ _ (alloc_size _ _).symm).alloc _
  have kr : Box W0 (w.heap.size + 2) 30 #[.bool false, .slice none 0 0, .slice none 0 0] := by rw [hW0]; exact Box.last _ _ _ (by rw [alloc_size, alloc_size])
  have hs0 : W0.heap.size = w.heap.size + 3 := by rw [hW0, alloc_size, alloc_size, alloc_size]
  go_enter Tryz.func17, Tryz.ntmps17
  go_upto_region 1 with fail
  rw [← hW0]
  clear hW0
  obtain ⟨a0, a1, a2⟩ := kx.cells3
  obtain ⟨b0, b1, b2⟩ := ky.cells3
  go_wp2_with fail
  refine (spec_RatOk W0 B (by omega) s A n c xs (Rx.below (hb0.mono hB)) D m k ds (Rd'.below (hb0.mono hB))).mono ?_
  rintro e w1 ⟨rfl, hb1⟩
  have kx1 := kx.below hb1 kx.lt
  have ky1 := ky.below hb1 ky.lt
  have kr1 := kr.below hb1 kr.lt
  have hs1 := hb1.size
  have hb1' := below_then hb0 hb1
  clear a0 a1 a2 b0 b1 b2 kx ky hb0 hb1 kr
  by_cases hr : ratB s xs ds = true
  · rw [hr]
    obtain ⟨a0, a1, a2⟩ := kx1.cells3
    obtain ⟨b0, b1, b2⟩ := ky1.cells3
    go_wp2_with fail
    refine (spec_RatOk w1 B (by omega) t A' n' c' ys (Ry.below (hb1'.mono hB)) D' m' k' es (Re'.below (hb1'.mono hB))).mono ?_
    rintro e w2 ⟨rfl, hb2⟩
    have kx2 := kx1.below hb2 kx1.lt
    have ky2 := ky1.below hb2 ky1.lt
    have kr2 := kr1.below hb2 kr1.lt
    have hs2 := hb2.size
    have hb2' := below_then hb1' hb2
    clear a0 a1 a2 b0 b1 b2 kx1 ky1 hb1' hb2 kr1
    by_cases hq : ratB t ys es = true
    · rw [hq]
      have hz := HOK.out hr hq
      obtain ⟨a0, a1, a2⟩ := kx2.cells3
      obtain ⟨b0, b1, b2⟩ := ky2.cells3
      clear HNO HOK
      rw [← div_ref hr hq] at hz
      subst hz
      have HX := hide kx2
      have HY := hide ky2
      have HRR := hide kr2
      have RX := Rx.below (hb2'.mono hB)
      have RD := Rd'.below (hb2'.mono hB)
      have RY := Ry.below (hb2'.mono hB)
      have RE := Re'.below (hb2'.mono hB)
      have hbx := bigB_nat (ratB_big hr)
      have hbd := ratB_den hr
      have hby := bigB_nat (ratB_big hq)
      have hbe := ratB_den hq
      have HC1 := hide (fun (W : World) (h : Below w2.heap.size w2 W) => spec_MulO W B (by have := h.size; omega) A n c xs (RX.below (h.mono (by omega))) hbx D' m' k' es (RE.below (h.mono (by omega))) hbe)
      have HC2 := hide (fun (W : World) (h : Below w2.heap.size w2 W) => spec_MulO W B (by have := h.size; omega) D m k ds (RD.below (h.mono (by omega))) hbd A' n' c' ys (RY.below (h.mono (by omega))) hby)
      have g1 := (prodL_ok hbx hbe (ratB_short hr).1 (ratB_short hq).2).1
      have g2 := (prodL_ok hbd hby (ratB_short hr).2 (ratB_short hq).1).1
      have HL1 := hide (prodL_len hbx hbe)
      have HL2 := hide (prodL_len hbd hby)
      have HC3 := hide (fun (W : World) (A1 A2 : Option Addr) (c1 c2 : Nat) (R1 : RdI W W.heap.size A1 (prodL xs es).length (prodL xs es)) (p1 : (prodL xs es).length ≤ c1 ∧ c1 ≤ maxLen) (R2 : RdI W W.heap.size A2 (prodL ds ys).length (prodL ds ys)) (p2 : (prodL ds ys).length ≤ c2 ∧ c2 ≤ maxLen) => spec_Low W W.heap.size (Nat.le_refl _) (s != t) A1 _ c1 (prodL xs es) R1 p1 g1 A2 _ c2 (prodL ds ys) R2 p2 g2)
      clear RX RD RY RE kx2 ky2 kr2 hbx hbd hby hbe g1 g2 hr hq
      have HS0 : Hid (Below w2.heap.size w2 w2.drew) := (Below.refl _ _).drew
      have HKS := hide (fun (W : World) (hq : Below w2.heap.size w2 W) => (⟨(HX.out.below hq HX.out.lt).cell 0, (HX.out.below hq HX.out.lt).cell 1, (HX.out.below hq HX.out.lt).cell 2, (HY.out.below hq HY.out.lt).cell 0, (HY.out.below hq HY.out.lt).cell 1, (HY.out.below hq HY.out.lt).cell 2⟩ : W.cell? ⟨w.heap.size, 0, none⟩ = some (.bool s) ∧ W.cell? ⟨w.heap.size, 1, none⟩ = some (.slice A n c) ∧ W.cell? ⟨w.heap.size, 2, none⟩ = some (.slice D m k) ∧ W.cell? ⟨w.heap.size + 1, 0, none⟩ = some (.bool t) ∧ W.cell? ⟨w.heap.size + 1, 1, none⟩ = some (.slice A' n' c') ∧ W.cell? ⟨w.heap.size + 1, 2, none⟩ = some (.slice D' m' k')))
      have HKR := hide (fun (W : World) (hq : Below w2.heap.size w2 W) => (⟨(HRR.out.below hq HRR.out.lt).cell 0, (HRR.out.below hq HRR.out.lt).cell 1, (HRR.out.below hq HRR.out.lt).cell 2, (HRR.out.below hq HRR.out.lt).frozen 0, (HRR.out.below hq HRR.out.lt).frozen 1, (HRR.out.below hq HRR.out.lt).frozen 2⟩ : W.cell? ⟨w.heap.size + 2, 0, none⟩ = some (.bool false) ∧ W.cell? ⟨w.heap.size + 2, 1, none⟩ = some (.slice none 0 0) ∧ W.cell? ⟨w.heap.size + 2, 2, none⟩ = some (.slice none 0 0) ∧ W.frozen? ⟨w.heap.size + 2, 0, none⟩ = false ∧ W.frozen? ⟨w.heap.size + 2, 1, none⟩ = false ∧ W.frozen? ⟨w.heap.size + 2, 2, none⟩ = false))
      have HKT := hide (fun (W : World) (hq : Below w2.heap.size w2 W) (x y z : Value) => (⟨(((((HX.out.below hq HX.out.lt).setv (show w.heap.size ≠ w.heap.size + 2 by omega) 0 x).setv (show w.heap.size ≠ w.heap.size + 2 by omega) 1 y).setv (show w.heap.size ≠ w.heap.size + 2 by omega) 2 z)).cell 0, (((((HX.out.below hq HX.out.lt).setv (show w.heap.size ≠ w.heap.size + 2 by omega) 0 x).setv (show w.heap.size ≠ w.heap.size + 2 by omega) 1 y).setv (show w.heap.size ≠ w.heap.size + 2 by omega) 2 z)).cell 1, (((((HX.out.below hq HX.out.lt).setv (show w.heap.size ≠ w.heap.size + 2 by omega) 0 x).setv (show w.heap.size ≠ w.heap.size + 2 by omega) 1 y).setv (show w.heap.size ≠ w.heap.size + 2 by omega) 2 z)).cell 2, (((((HY.out.below hq HY.out.lt).setv (show w.heap.size + 1 ≠ w.heap.size + 2 by omega) 0 x).setv (show w.heap.size + 1 ≠ w.heap.size + 2 by omega) 1 y).setv (show w.heap.size + 1 ≠ w.heap.size + 2 by omega) 2 z)).cell 0, (((((HY.out.below hq HY.out.lt).setv (show w.heap.size + 1 ≠ w.heap.size + 2 by omega) 0 x).setv (show w.heap.size + 1 ≠ w.heap.size + 2 by omega) 1 y).setv (show w.heap.size + 1 ≠ w.heap.size + 2 by omega) 2 z)).cell 1, (((((HY.out.below hq HY.out.lt).setv (show w.heap.size + 1 ≠ w.heap.size + 2 by omega) 0 x).setv (show w.heap.size + 1 ≠ w.heap.size + 2 by omega) 1 y).setv (show w.heap.size + 1 ≠ w.heap.size + 2 by omega) 2 z)).cell 2⟩ : (((W.setCell ⟨w.heap.size + 2, 0, none⟩ x).setCell ⟨w.heap.size + 2, 1, none⟩ y).setCell ⟨w.heap.size + 2, 2, none⟩ z).cell? ⟨w.heap.size, 0, none⟩ = some (.bool s) ∧ (((W.setCell ⟨w.heap.size + 2, 0, none⟩ x).setCell ⟨w.heap.size + 2, 1, none⟩ y).setCell ⟨w.heap.size + 2, 2, none⟩ z).cell? ⟨w.heap.size, 1, none⟩ = some (.slice A n c) ∧ (((W.setCell ⟨w.heap.size + 2, 0, none⟩ x).setCell ⟨w.heap.size + 2, 1, none⟩ y).setCell ⟨w.heap.size + 2, 2, none⟩ z).cell? ⟨w.heap.size, 2, none⟩ = some (.slice D m k) ∧ (((W.setCell ⟨w.heap.size + 2, 0, none⟩ x).setCell ⟨w.heap.size + 2, 1, none⟩ y).setCell ⟨w.heap.size + 2, 2, none⟩ z).cell? ⟨w.heap.size + 1, 0, none⟩ = some (.bool t) ∧ (((W.setCell ⟨w.heap.size + 2, 0, none⟩ x).setCell ⟨w.heap.size + 2, 1, none⟩ y).setCell ⟨w.heap.size + 2, 2, none⟩ z).cell? ⟨w.heap.size + 1, 1, none⟩ = some (.slice A' n' c') ∧ (((W.setCell ⟨w.heap.size + 2, 0, none⟩ x).setCell ⟨w.heap.size + 2, 1, none⟩ y).setCell ⟨w.heap.size + 2, 2, none⟩ z).cell? ⟨w.heap.size + 1, 2, none⟩ = some (.slice D' m' k')))
      go_wp2_with fail
      go_region_held3 (fun w' => w'.cell? ⟨w.heap.size, 0, none⟩ = some (.bool s) ∧ w'.cell? ⟨w.heap.size, 1, none⟩ = some (.slice A n c) ∧ w'.cell? ⟨w.heap.size, 2, none⟩ = some (.slice D m k) ∧ w'.cell? ⟨w.heap.size + 1, 0, none⟩ = some (.bool t) ∧ w'.cell? ⟨w.heap.size + 1, 1, none⟩ = some (.slice A' n' c') ∧ w'.cell? ⟨w.heap.size + 1, 2, none⟩ = some (.slice D' m' k'))
          (first | (with_reducible exact HKT.out _ HS3.out _ _ _) | (with_reducible exact HKS.out _ HS3.out) | (with_reducible exact HKS.out _ HS2.out) | (with_reducible exact HKS.out _ HS1.out) | (with_reducible exact HKS.out _ HS0.out))
          (first
            | (go_at_call_has 39 A; refine (HC1.out _ HS0.out).mono ?_; rintro e w3 ⟨v1, rfl, o1, hb1⟩; obtain ⟨A1, c1, rfl⟩ := o1.form; have P1 := hide o1.cap; have HS1 := hide (below_then HS0.out hb1))
            | (go_at_call_has 39 D; refine (HC2.out _ HS1.out).mono ?_; rintro e w4 ⟨v2, rfl, o2, hb2⟩; obtain ⟨A2, c2, rfl⟩ := o2.form; have P2 := hide o2.cap; have r1 := RdI.of_own (o1.below hb2 (Nat.le_refl _)) HL1.out (prodL_limbs _ _); have r2 := RdI.of_own o2 HL2.out (prodL_limbs _ _); have HS2 := hide (below_then HS1.out hb2))
            | (go_at_call 38; refine (HC3.out _ _ _ _ _ r1 P1.out r2 P2.out).mono ?_; rintro e w5 ⟨v3, d3, rfl, p3, hb3⟩; obtain ⟨A3, c3, K3, k3, rfl, rfl⟩ := p3.form; have HS3 := hide (below_then HS2.out hb3); obtain ⟨z0, z1, z2, z3, z4, z5⟩ := HKR.out _ HS3.out))
      have hz1 := hb1.size
      have hz2 := hb2.size
      have kr3 := HRR.out.below HS3.out HRR.out.lt
      have HO := hide (ret_rat kr3 p3 (below_then hb2' HS3.out) (x := (lowR (zv (s != t) (prodL xs es)) (natV (prodL ds ys))).1.1) (show w.heap.size ≤ w.heap.size + 2 by omega) (show w.heap.size + 2 < w4.heap.size by (try simp only [drew_size] at hz1 hz2); omega))
      clear o1 o2 r1 r2 p3 hb1 hb2 hb3 z0 z1 z2 z3 z4 z5 kr3 hz1 hz2
      go_wp2_with fail
      refine bodyPost_ret (results_cell_row rfl _ _ (w.heap.size + 2) _ #[.bool (lowR (zv (s != t) (prodL xs es)) (natV (prodL ds ys))).1.1, .slice A3 (lowR (zv (s != t) (prodL xs es)) (natV (prodL ds ys))).1.2.length c3, .slice K3 (lowR (zv (s != t) (prodL xs es)) (natV (prodL ds ys))).2.length k3] (0, 0) _ rfl HO.out.1 Tryz.underlying30 rfl Tryz.sizeRat) rfl ?_
      exact ⟨_, _, rfl, HO.out.2.1, HO.out.2.2⟩
    · have hq : ratB t ys es = false := by simpa using hq
      have hz := HNO.out (.inr hq)
      subst hz
      rw [hq]
      clear HNO HOK
      have HO := hide (ret_rat0 (F := 3) kr2 hb2' (show w.heap.size ≤ w.heap.size + 2 by omega))
      obtain ⟨z0, z1, z2, z3, z4, z5⟩ := kr2.facts3
      clear kr2 hb2'
      go_wp2_with fail
      refine bodyPost_ret (results_cell_row rfl _ _ (w.heap.size + 2) _ #[.bool false, .slice none 0 0, .slice none 0 0] (0, 0) _ rfl HO.out.1 Tryz.underlying30 rfl Tryz.sizeRat) rfl ?_
      exact ⟨_, _, rfl, HO.out.2.1, HO.out.2.2⟩
  · have hr : ratB s xs ds = false := by simpa using hr
    have hz := HNO.out (.inl hr)
    subst hz
    rw [hr]
    clear HNO HOK
    have HO := hide (ret_rat0 (F := 3) kr1 hb1' (show w.heap.size ≤ w.heap.size + 2 by omega))
    obtain ⟨z0, z1, z2, z3, z4, z5⟩ := kr1.facts3
    clear kr1 hb1'
    go_wp2_with fail
    refine bodyPost_ret (results_cell_row rfl _ _ (w.heap.size + 2) _ #[.bool false, .slice none 0 0, .slice none 0 0] (0, 0) _ rfl HO.out.1 Tryz.underlying30 rfl Tryz.sizeRat) rfl ?_
    exact ⟨_, _, rfl, HO.out.2.1, HO.out.2.2⟩
set_option maxRecDepth 100000 in
set_option maxHeartbeats 3200000 in
theorem spec_RatCmp (w : World) (B : Nat) (hB : B ≤ w.heap.size) (s : Bool) (A : Option Addr) (n c : Nat) (xs : List Int) (Rx : RdI w B A n xs) (D : Option Addr) (m k : Nat) (ds : List Int) (Rd' : RdI w B D m ds) (t : Bool) (A' : Option Addr) (n' c' : Nat) (ys : List Int) (Ry : RdI w B A' n' ys) (D' : Option Addr) (m' k' : Nat) (es : List Int) (Re' : RdI w B D' m' es) :
    Calls Tryz.prog 15 #[.agg #[.bool s, .slice A n c, .slice D m k], .agg #[.bool t, .slice A' n' c', .slice D' m' k']] w fun e w' => e = .returned (.int .i64 (cmpR s xs ds t ys es)) ∧ Below w.heap.size w w' := by
  have HNO := hide (cmpR_noR (s := s) (t := t) (xs := xs) (ds := ds) (ys := ys) (es := es))
  have HOK := hide (cmpR_okR (s := s) (t := t) (xs := xs) (ds := ds) (ys := ys) (es := es))
  generalize cmpR s xs ds t ys es = Z at HNO HOK ⊢
  obtain ⟨W0, hW0⟩ : ∃ W0, W0 = ((w.alloc (.cells #[.bool s, .slice A n c, .slice D m k] 30)).alloc (.cells #[.bool t, .slice A' n' c', .slice D' m' k'] 30)) := ⟨_, rfl⟩
  have hb0 : Below w.heap.size w W0 := by rw [hW0]; exact below_alloc (below_new _ _) _
  have kx : Box W0 (w.heap.size) 30 #[.bool s, .slice A n c, .slice D m k] := by rw [hW0]; exact (Box.last _ _ _ rfl).alloc _
  have ky : Box W0 (w.heap.size + 1) 30 #[.bool t, .slice A' n' c', .slice D' m' k'] := by rw [hW0]; exact Box.last _ _ _ (alloc_size _ _).symm
  have hs0 : W0.heap.size = w.heap.size + 2 := by rw [hW0, alloc_size, alloc_size]
  go_enter Tryz.func15, Tryz.ntmps15
  go_upto_region 1 with fail
  rw [← hW0]
  clear hW0
  obtain ⟨a0, a1, a2⟩ := kx.cells3
  obtain ⟨b0, b1, b2⟩ := ky.cells3
  go_wp2_with fail
  refine (spec_RatOk W0 B (by omega) s A n c xs (Rx.below (hb0.mono hB)) D m k ds (Rd'.below (hb0.mono hB))).mono ?_
  rintro e w1 ⟨rfl, hb1⟩
  have kx1 := kx.below hb1 kx.lt
  have ky1 := ky.below hb1 ky.lt
  have hs1 := hb1.size
  have hb1' := below_then hb0 hb1
  clear a0 a1 a2 b0 b1 b2 kx ky hb0 hb1
  by_cases hr : ratB s xs ds = true
  · rw [hr]
    obtain ⟨a0, a1, a2⟩ := kx1.cells3
    obtain ⟨b0, b1, b2⟩ := ky1.cells3
    go_wp2_with fail
    refine (spec_RatOk w1 B (by omega) t A' n' c' ys (Ry.below (hb1'.mono hB)) D' m' k' es (Re'.below (hb1'.mono hB))).mono ?_
    rintro e w2 ⟨rfl, hb2⟩
    have kx2 := kx1.below hb2 kx1.lt
    have ky2 := ky1.below hb2 ky1.lt
    have hs2 := hb2.size
    have hb2' := below_then hb1' hb2
    clear a0 a1 a2 b0 b1 b2 kx1 ky1 hb1' hb2
    by_cases hq : ratB t ys es = true
    · rw [hq]
      have hz := HOK.out hr hq
      obtain ⟨a0, a1, a2⟩ := kx2.cells3
      obtain ⟨b0, b1, b2⟩ := ky2.cells3
      clear HNO HOK
      subst hz
      have HCP := hide (spec_ratCmp w2 B (by omega) s A n c xs (Rx.below (hb2'.mono hB)) D m k ds (Rd'.below (hb2'.mono hB)) hr t A' n' c' ys (Ry.below (hb2'.mono hB)) D' m' k' es (Re'.below (hb2'.mono hB)) hq)
      clear hr hq
      go_wp2_with fail
      refine HCP.out.mono ?_
      rintro e w3 ⟨rfl, hb3⟩
      have hb3' := below_then hb2' hb3
      go_wp2_with fail
      go_ret
      exact ⟨rfl, hb3'⟩
    · have hq : ratB t ys es = false := by simpa using hq
      have hz := HNO.out (.inr hq)
      subst hz
      rw [hq]
      clear HNO HOK
      go_wp2_with fail
      go_ret
      exact ⟨rfl, hb2'⟩
  · have hr : ratB s xs ds = false := by simpa using hr
    have hz := HNO.out (.inl hr)
    subst hz
    rw [hr]
    clear HNO HOK
    go_wp2_with fail
    go_ret
    exact ⟨rfl, hb1'⟩
end Go.Proofs.YtdcceppednngjaaGreat
