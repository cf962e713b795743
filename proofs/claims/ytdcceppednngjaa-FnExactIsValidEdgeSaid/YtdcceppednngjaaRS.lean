/-
  The texts RatR5, RatR7, put together; each has its own heading below. No condition of ours.
-/
import Derived.Test.YtdcceppednngjaaRL
import Derived.Test.YtdcceppednngjaaBigR5
import Derived.Test.YtdcceppednngjaaRA
import Derived.Sort.AtCall
import Derived.Deep.RegionHeld3
import Derived.Test.YtdcceppednngjaaBigR2
import Derived.Deep.CutRange
/-
  The reference's fractions: contracts (5): products; l04Mul, RatDiv, l04Cmp.
-/





namespace Go.Proofs.Ytdcceppednngjaa
open Go.RowKit
set_option linter.unusedVariables false
def prodL (xs ys : List Int) : List Int := limbs (natV xs * natV ys)
theorem prodL_val {xs ys : List Int} (hx : natB xs = true) (hy : natB ys = true) : limbs (val xs * val ys).toNat = prodL xs ys := by
  rw [zval hx, zval hy, ← Int.natCast_mul]; rfl
theorem prodL_len {xs ys : List Int} (hx : natB xs = true) (hy : natB ys = true) : (prodL xs ys).length ≤ 1048576 := by
  have h1 := natB_lt hx
  have h2 := natB_lt hy
  have : (prodL xs ys).length ≤ 120 := by
    refine limbs_len.2 ?_
    rw [show (1000000000 : Nat) ^ 120 = 1000000000 ^ 60 * 1000000000 ^ 60 by rw [← Nat.pow_add]]
    exact Nat.mul_lt_mul'' h1 h2
  omega
theorem spec_MulO (w : World) (B : Nat) (hB : B ≤ w.heap.size) (A : Option Addr) (n c : Nat) (xs : List Int) (Rx : RdI w B A n xs) (hx : natB xs = true) (A' : Option Addr) (m c' : Nat) (ys : List Int) (Ry : RdI w B A' m ys) (hy : natB ys = true) :
    Calls Try.prog 104 #[.slice A n c, .slice A' m c'] w fun e w' => ∃ v, e = .returned v ∧ Own w' w.heap.size w'.heap.size 3 v (prodL xs ys).length (iv (prodL xs ys)) ∧ Below w.heap.size w w' := by
  have h1 := ((natB_iff xs).1 hx).2
  have h2 := ((natB_iff ys).1 hy).2
  refine (spec_Mul w B hB A A' n m c c' xs ys Rx.1 Ry.1 Rx.2.1 Ry.2.1 (by have := Rx.1; omega) (by have := Ry.1; omega) ((natB_iff xs).1 hx).1.1 ((natB_iff ys).1 hy).1.1).mono ?_
  rintro e w' ⟨v, he, q, hb⟩
  rw [prodL_val hx hy] at q
  exact ⟨v, he, Own.of q, hb⟩
theorem spec_MakeZ (w : World) (B : Nat) (hB : B ≤ w.heap.size) (s : Bool) (A : Option Addr) (n c : Nat) (xs : List Int) (hn : xs.length = n) (hx : Rd w B A (iv xs)) (hc : n ≤ c ∧ c ≤ maxLen) (Z : Bool × List Int) (hZ : (s && !(capT xs).isEmpty, capT xs) = Z) :
    Calls Try.prog 103 #[.bool s, .slice A n c] w fun e w' => ∃ v, e = .returned (.agg #[.bool Z.1, v]) ∧ Own w' w.heap.size w'.heap.size 3 v Z.2.length (iv Z.2) ∧ Below w.heap.size w w' := by
  subst hZ
  exact spec_Make w B hB s A n c xs hn hx hc.1 hc.2
theorem make_mulZ {s : Bool} {xs es : List Int} (h : bigB s xs = true) (k : natB es = true) : (s && !(capT (prodL xs es)).isEmpty, capT (prodL xs es)) = mulZ s xs false es := by
  rw [num_mulZ h k, prodL, make_limbs, zv_nat (bigB_nat h), zval k]
  congr 1
  cases s
  · simp
  · simp [Int.neg_mul]
set_option maxRecDepth 100000 in
set_option maxHeartbeats 3200000 in
theorem spec_ratCmp (w : World) (B : Nat) (hB : B ≤ w.heap.size) (s : Bool) (A : Option Addr) (n c : Nat) (xs : List Int) (Rx : RdI w B A n xs) (D : Option Addr) (m k : Nat) (ds : List Int) (Rd' : RdI w B D m ds) (hr : ratB s xs ds = true) (t : Bool) (A' : Option Addr) (n' c' : Nat) (ys : List Int) (Ry : RdI w B A' n' ys) (D' : Option Addr) (m' k' : Nat) (es : List Int) (Re' : RdI w B D' m' es) (hq : ratB t ys es = true) :
    Calls Try.prog 97 #[.agg #[.bool s, .slice A n c, .slice D m k], .agg #[.bool t, .slice A' n' c', .slice D' m' k']] w fun e w' => e = .returned (.int .i64 (cmpW s xs ds t ys es)) ∧ Below w.heap.size w w' := by
  have hz : cmpV (zv (mulZ s xs false es).1 (mulZ s xs false es).2) (zv (mulZ t ys false ds).1 (mulZ t ys false ds).2) = cmpW s xs ds t ys es := by rw [num_mulZ (ratB_big hr) (ratB_den hq), num_mulZ (ratB_big hq) (ratB_den hr), (capZ_back (lt60 (numB hr hq))).2.1, (capZ_back (lt60 (numB hq hr))).2.1]; rfl
  rw [← hz]
  obtain ⟨W0, hW0⟩ : ∃ W0, W0 = ((w.alloc (.cells #[.bool s, .slice A n c, .slice D m k] 51)).alloc (.cells #[.bool t, .slice A' n' c', .slice D' m' k'] 51)) := ⟨_, rfl⟩
  have hb0 : Below w.heap.size w W0 := by rw [hW0]; exact below_alloc (below_new _ _) _
  have kx : Box W0 (w.heap.size) 51 #[.bool s, .slice A n c, .slice D m k] := by rw [hW0]; exact (Box.last _ _ _ rfl).alloc _
  have ky : Box W0 (w.heap.size + 1) 51 #[.bool t, .slice A' n' c', .slice D' m' k'] := by rw [hW0]; exact Box.last _ _ _ (alloc_size _ _).symm
  have hs0 : W0.heap.size = w.heap.size + 2 := by rw [hW0, alloc_size, alloc_size]
  have HX := hide kx
  have HY := hide ky
  have RX := Rx.below (hb0.mono hB)
  have RD := Rd'.below (hb0.mono hB)
  have RY := Ry.below (hb0.mono hB)
  have RE := Re'.below (hb0.mono hB)
  have hbx := bigB_nat (ratB_big hr)
  have hbd := ratB_den hr
  have hby := bigB_nat (ratB_big hq)
  have hbe := ratB_den hq
  have HC1 := hide (fun (W : World) (h : Below W0.heap.size W0 W) => spec_MulO W B (by have := h.size; omega) A n c xs (RX.below (h.mono (by omega))) hbx D' m' k' es (RE.below (h.mono (by omega))) hbe)
  have HC3 := hide (fun (W : World) (h : Below W0.heap.size W0 W) => spec_MulO W B (by have := h.size; omega) A' n' c' ys (RY.below (h.mono (by omega))) hby D m k ds (RD.below (h.mono (by omega))) hbd)
  have HL1 := hide (prodL_len hbx hbe)
  have HL3 := hide (prodL_len hby hbd)
  have e1 := make_mulZ (ratB_big hr) hbe
  have e3 := make_mulZ (ratB_big hq) hbd
  have b1 : bigB (mulZ s xs false es).1 (mulZ s xs false es).2 = true := by rw [num_mulZ (ratB_big hr) hbe]; exact (capZ_back (lt60 (numB hr hq))).1
  have b3 : bigB (mulZ t ys false ds).1 (mulZ t ys false ds).2 = true := by rw [num_mulZ (ratB_big hq) hbd]; exact (capZ_back (lt60 (numB hq hr))).1
  have HC2 := hide (fun (W : World) (A1 : Option Addr) (c1 : Nat) (R1 : Rd W W.heap.size A1 (iv (prodL xs es))) (p1 : (prodL xs es).length ≤ c1 ∧ c1 ≤ maxLen) => spec_MakeZ W W.heap.size (Nat.le_refl _) s A1 _ c1 (prodL xs es) rfl R1 p1 _ e1)
  have HC4 := hide (fun (W : World) (A1 : Option Addr) (c1 : Nat) (R1 : Rd W W.heap.size A1 (iv (prodL ys ds))) (p1 : (prodL ys ds).length ≤ c1 ∧ c1 ≤ maxLen) => spec_MakeZ W W.heap.size (Nat.le_refl _) t A1 _ c1 (prodL ys ds) rfl R1 p1 _ e3)
  have HC5 := hide (fun (W : World) (A1 A2 : Option Addr) (c1 c2 : Nat) (R1 : RdI W W.heap.size A1 (mulZ s xs false es).2.length (mulZ s xs false es).2) (R2 : RdI W W.heap.size A2 (mulZ t ys false ds).2.length (mulZ t ys false ds).2) => spec_l03Cmp W W.heap.size (Nat.le_refl _) (mulZ s xs false es).1 A1 _ c1 (mulZ s xs false es).2 R1 b1 (mulZ t ys false ds).1 A2 _ c2 (mulZ t ys false ds).2 R2 b3)
  have HN1 := hide (mulZ_len s xs false es)
  have HN2 := hide (mulZ_len t ys false ds)
  have HQ1 := hide (mulZ_limbs s xs false es)
  have HQ2 := hide (mulZ_limbs t ys false ds)
  clear RX RD RY RE kx ky hbx hbd hby hbe hr hq e1 e3 b1 b3 hz
  obtain ⟨a0, a1, a2⟩ := HX.out.cells3
  obtain ⟨b0, b1, b2⟩ := HY.out.cells3
  have HS0 : Hid (Below W0.heap.size W0 W0.drew) := (Below.refl _ _).drew
  have HKS := hide (fun (W : World) (hq : Below W0.heap.size W0 W) => (⟨(HX.out.below hq HX.out.lt).cell 0, (HX.out.below hq HX.out.lt).cell 1, (HX.out.below hq HX.out.lt).cell 2, (HY.out.below hq HY.out.lt).cell 0, (HY.out.below hq HY.out.lt).cell 1, (HY.out.below hq HY.out.lt).cell 2⟩ : W.cell? ⟨w.heap.size, 0, none⟩ = some (.bool s) ∧ W.cell? ⟨w.heap.size, 1, none⟩ = some (.slice A n c) ∧ W.cell? ⟨w.heap.size, 2, none⟩ = some (.slice D m k) ∧ W.cell? ⟨w.heap.size + 1, 0, none⟩ = some (.bool t) ∧ W.cell? ⟨w.heap.size + 1, 1, none⟩ = some (.slice A' n' c') ∧ W.cell? ⟨w.heap.size + 1, 2, none⟩ = some (.slice D' m' k')))
  go_enter Try.func97, Try.ntmps97
  go_upto_region 1 with fail
  rw [← hW0]
  clear hW0
  go_region_held3 (fun w' => w'.cell? ⟨w.heap.size, 0, none⟩ = some (.bool s) ∧ w'.cell? ⟨w.heap.size, 1, none⟩ = some (.slice A n c) ∧ w'.cell? ⟨w.heap.size, 2, none⟩ = some (.slice D m k) ∧ w'.cell? ⟨w.heap.size + 1, 0, none⟩ = some (.bool t) ∧ w'.cell? ⟨w.heap.size + 1, 1, none⟩ = some (.slice A' n' c') ∧ w'.cell? ⟨w.heap.size + 1, 2, none⟩ = some (.slice D' m' k'))
      (first | (with_reducible exact HKS.out _ HS5.out) | (with_reducible exact HKS.out _ HS4.out) | (with_reducible exact HKS.out _ HS3.out) | (with_reducible exact HKS.out _ HS2.out) | (with_reducible exact HKS.out _ HS1.out) | (with_reducible exact HKS.out _ HS0.out))
      (first
        | (go_at_call_has 104 A; refine (HC1.out _ HS0.out).mono ?_; rintro e w1 ⟨v1, rfl, o1, hb1⟩; obtain ⟨A1, c1, rfl⟩ := o1.form; have P1 := hide o1.cap; have q1 := hide o1.rd; have HS1 := hide (below_then HS0.out hb1))
        | (go_at_call_has 103 A1; refine (HC2.out _ _ _ q1.out P1.out).mono ?_; rintro e w2 ⟨v2, rfl, o2, hb2⟩; obtain ⟨A2, c2, rfl⟩ := o2.form; have HS2 := hide (below_then HS1.out hb2))
        | (go_at_call_has 104 A'; refine (HC3.out _ HS2.out).mono ?_; rintro e w3 ⟨v3, rfl, o3, hb3⟩; obtain ⟨A3, c3, rfl⟩ := o3.form; have P3 := hide o3.cap; have q3 := hide o3.rd; have HS3 := hide (below_then HS2.out hb3))
        | (go_at_call_has 103 A3; refine (HC4.out _ _ _ q3.out P3.out).mono ?_; rintro e w4 ⟨v4, rfl, o4, hb4⟩; obtain ⟨A4, c4, rfl⟩ := o4.form; have r1 := RdI.of_own ((own_up (o2.below hb3 (Nat.le_refl _)) (Nat.le_refl _) hb3.size).below hb4 (Nat.le_refl _)) HN1.out HQ1.out; have r2 := RdI.of_own o4 HN2.out HQ2.out; have HS4 := hide (below_then HS3.out hb4))
        | (go_at_call 122; refine (HC5.out _ _ _ _ _ r1 r2).mono ?_; rintro e w5 ⟨rfl, hb5⟩; have HS5 := hide (below_then HS4.out hb5)))
  have hb5' := below_then hb0 HS5.out
  go_wp2_with fail
  go_ret
  exact ⟨rfl, hb5'⟩
end Go.Proofs.Ytdcceppednngjaa

/-
  The reference's fractions: contracts (7): RatAdd, RatMul, RatSub, RatDiv, RatCmp, RatSign, RatNeg, RatMin, RatMax.
-/

namespace Go.Proofs.Ytdcceppednngjaa
open Go.RowKit
set_option linter.unusedVariables false
theorem cmpR_noR {s t : Bool} {xs ds ys es : List Int} (h : ratB s xs ds = false ∨ ratB t ys es = false) : cmpR s xs ds t ys es = 0 := by rw [cmpR, if_neg]; rcases h with h | h <;> simp [h]
theorem cmpR_okR {s t : Bool} {xs ds ys es : List Int} (h : ratB s xs ds = true) (k : ratB t ys es = true) : cmpR s xs ds t ys es = cmpW s xs ds t ys es := by rw [cmpR, h, k]; rfl
set_option maxRecDepth 100000 in
set_option maxHeartbeats 3200000 in
theorem spec_RatCmp (w : World) (B : Nat) (hB : B ≤ w.heap.size) (s : Bool) (A : Option Addr) (n c : Nat) (xs : List Int) (Rx : RdI w B A n xs) (D : Option Addr) (m k : Nat) (ds : List Int) (Rd' : RdI w B D m ds) (t : Bool) (A' : Option Addr) (n' c' : Nat) (ys : List Int) (Ry : RdI w B A' n' ys) (D' : Option Addr) (m' k' : Nat) (es : List Int) (Re' : RdI w B D' m' es) :
    Calls Try.prog 65 #[.agg #[.bool s, .slice A n c, .slice D m k], .agg #[.bool t, .slice A' n' c', .slice D' m' k']] w fun e w' => e = .returned (.int .i64 (cmpR s xs ds t ys es)) ∧ Below w.heap.size w w' := by
  have HNO := hide (cmpR_noR (s := s) (t := t) (xs := xs) (ds := ds) (ys := ys) (es := es))
  have HOK := hide (cmpR_okR (s := s) (t := t) (xs := xs) (ds := ds) (ys := ys) (es := es))
  generalize cmpR s xs ds t ys es = Z at HNO HOK ⊢
  obtain ⟨W0, hW0⟩ : ∃ W0, W0 = ((w.alloc (.cells #[.bool s, .slice A n c, .slice D m k] 51)).alloc (.cells #[.bool t, .slice A' n' c', .slice D' m' k'] 51)) := ⟨_, rfl⟩
  have hb0 : Below w.heap.size w W0 := by rw [hW0]; exact below_alloc (below_new _ _) _
  have kx : Box W0 (w.heap.size) 51 #[.bool s, .slice A n c, .slice D m k] := by rw [hW0]; exact (Box.last _ _ _ rfl).alloc _
  have ky : Box W0 (w.heap.size + 1) 51 #[.bool t, .slice A' n' c', .slice D' m' k'] := by rw [hW0]; exact Box.last _ _ _ (alloc_size _ _).symm
  have hs0 : W0.heap.size = w.heap.size + 2 := by rw [hW0, alloc_size, alloc_size]
  go_enter Try.func65, Try.ntmps65
  go_upto_region 1 with fail
  rw [← hW0]
  clear hW0
  obtain ⟨a0, a1, a2⟩ := kx.cells3
  obtain ⟨b0, b1, b2⟩ := ky.cells3
  go_wp2_with fail
  refine (spec_RatOk W0 B (by omega) s A n c xs (Rx.below (hb0.mono hB)) D m k ds (Rd'.below (hb0.mono hB))).mono ?_
  rintro e w1 ⟨rfl, hb1⟩
  have kx1 := kx.below hb1 kx.lt
  have ky1 := ky.below hb1 ky.lt
  have hs1 := hb1.size
  have hb1' := below_then hb0 hb1
  clear a0 a1 a2 b0 b1 b2 kx ky hb0 hb1
  by_cases hr : ratB s xs ds = true
  · rw [hr]
    obtain ⟨a0, a1, a2⟩ := kx1.cells3
    obtain ⟨b0, b1, b2⟩ := ky1.cells3
    go_wp2_with fail
    refine (spec_RatOk w1 B (by omega) t A' n' c' ys (Ry.below (hb1'.mono hB)) D' m' k' es (Re'.below (hb1'.mono hB))).mono ?_
    rintro e w2 ⟨rfl, hb2⟩
    have kx2 := kx1.below hb2 kx1.lt
    have ky2 := ky1.below hb2 ky1.lt
    have hs2 := hb2.size
    have hb2' := below_then hb1' hb2
    clear a0 a1 a2 b0 b1 b2 kx1 ky1 hb1' hb2
    by_cases hq : ratB t ys es = true
    · rw [hq]
      have hz := HOK.out hr hq
      obtain ⟨a0, a1, a2⟩ := kx2.cells3
      obtain ⟨b0, b1, b2⟩ := ky2.cells3
      clear HNO HOK
      subst hz
      have HCP := hide (spec_ratCmp w2 B (by omega) s A n c xs (Rx.below (hb2'.mono hB)) D m k ds (Rd'.below (hb2'.mono hB)) hr t A' n' c' ys (Ry.below (hb2'.mono hB)) D' m' k' es (Re'.below (hb2'.mono hB)) hq)
      clear hr hq
      go_wp2_with fail
      refine HCP.out.mono ?_
      rintro e w3 ⟨rfl, hb3⟩
      have hb3' := below_then hb2' hb3
      go_wp2_with fail
      go_ret
      exact ⟨rfl, hb3'⟩
    · have hq : ratB t ys es = false := by simpa using hq
      have hz := HNO.out (.inr hq)
      subst hz
      rw [hq]
      clear HNO HOK
      go_wp2_with fail
      go_ret
      exact ⟨rfl, hb2'⟩
  · have hr : ratB s xs ds = false := by simpa using hr
    have hz := HNO.out (.inl hr)
    subst hz
    rw [hr]
    clear HNO HOK
    go_wp2_with fail
    go_ret
    exact ⟨rfl, hb1'⟩
end Go.Proofs.Ytdcceppednngjaa
