/-
  The texts BigI, BigI2, BigI3, BigI4, put together; each has its own heading below. No condition of ours.
-/
import Derived.Test.YtdcceppednngjabIA
import Derived.Test.YtdcceppednngjabPB
import Derived.Deep.RegionHeld3
import Derived.Test.YtdcceppednngjabNatLen
/-
  The program's big integers: contracts (1): signedOf, isNatural, isZero, isValid, bigInt.
-/




namespace Go.Proofs.Ytdcceppednngjab
open Go.RowKit
set_option maxHeartbeats 400000 in
theorem impl_signedOf (w : World) (s : Bool) (A : Option Addr) (n c : Nat) :
    Calls Try.prog 36 #[.agg #[.bool s, .slice A n c]] w fun e w' => e = .returned (.agg #[.slice A n c, .bool s]) ∧ Below w.heap.size w w' := by
  go_enter Try.func36, Try.ntmps36
  go_wp2_with fail
  refine bodyPost_ret (results_cell_row rfl _ _ (w.heap.size + 1) _ #[.slice A n c, .bool s] (0, 0) _ rfl (heap_last (alloc_size _ _).symm) Try.underlying68 rfl Try.sizeSigned) rfl ?_
  exact ⟨rfl, ((Below.refl _ _).alloc (Nat.le_refl _) _).alloc (by rw [alloc_size]; omega) _⟩
set_option maxHeartbeats 400000 in
theorem impl_isNatural (w : World) (B : Nat) (hB : B ≤ w.heap.size) (A : Option Addr) (n c : Nat) (xs : List Int) (R : RdI w B A n xs) :
    Calls Try.prog 56 #[.slice A n c] w fun e w' => e = .returned (.bool (natB xs)) ∧ w = w' := by
  go_enter Try.func56, Try.ntmps56
  go_wp2_with fail
  refine (impl_NatOk w B hB A n c xs R).mono ?_
  rintro e w1 ⟨rfl, rfl⟩
  go_wp2_with fail
  go_ret
  exact ⟨rfl, rfl⟩
set_option maxHeartbeats 400000 in
theorem impl_isZero (w : World) (A : Option Addr) (n c : Nat) (xs : List Int) (hn : xs.length = n) :
    Calls Try.prog 57 #[.slice A n c] w fun e w' => e = .returned (.bool xs.isEmpty) ∧ w = w' := by
  rw [isEmpty_len hn]
  go_enter Try.func57, Try.ntmps57
  go_wp2_with fail
  go_ret
  exact ⟨rfl, rfl⟩
set_option maxHeartbeats 400000 in
theorem impl_isValid (w : World) (B : Nat) (hB : B ≤ w.heap.size) (s : Bool) (A : Option Addr) (n c : Nat) (xs : List Int) (R : RdI w B A n xs) :
    Calls Try.prog 37 #[.agg #[.slice A n c, .bool s]] w fun e w' => e = .returned (.bool (bigB s xs)) ∧ Below w.heap.size w w' := by
  have hb0 : Below w.heap.size w (w.alloc (.cells #[.slice A n c, .bool s] 68)) := (Below.refl _ _).alloc (Nat.le_refl _) _
  have hs := alloc_size w (.cells #[.slice A n c, .bool s] 68)
  have R1 := R.below (hb0.mono hB)
  by_cases hn : natB xs = true
  · cases s
    · have hv : bigB false xs = true := by rw [bigB, hn]; rfl
      rw [hv]
      go_enter Try.func37, Try.ntmps37
      go_wp2_with fail
      refine (impl_isNatural _ B (by omega) A n c xs R1).mono ?_
      rintro e w1 ⟨rfl, rfl⟩
      rw [hn]
      go_wp2_with fail
      go_ret
      exact ⟨rfl, hb0⟩
    · have hv : bigB true xs = !xs.isEmpty := by rw [bigB, hn]; rfl
      rw [hv]
      go_enter Try.func37, Try.ntmps37
      go_wp2_with fail
      refine (impl_isNatural _ B (by omega) A n c xs R1).mono ?_
      rintro e w1 ⟨rfl, rfl⟩
      rw [hn]
      go_wp2_with fail
      refine (impl_isZero _ A n c xs R.1).mono ?_
      rintro e w1 ⟨rfl, rfl⟩
      go_wp2_with fail
      go_ret
      exact ⟨rfl, hb0⟩
  · have hn : natB xs = false := by simpa using hn
    rw [bigB_bad hn]
    go_enter Try.func37, Try.ntmps37
    go_wp2_with fail
    refine (impl_isNatural _ B (by omega) A n c xs R1).mono ?_
    rintro e w1 ⟨rfl, rfl⟩
    rw [hn]
    go_wp2_with fail
    go_ret
    exact ⟨rfl, hb0⟩
set_option maxHeartbeats 800000 in
theorem impl_fit (w : World) (A : Option Addr) (n c : Nat) :
    Calls Try.prog 44 #[.slice A n c] w fun e w' => e = .returned (if n ≤ 60 then .slice A n c else .slice none 0 0) ∧ w = w' := by
  by_cases h60 : n ≤ 60
  · have HE : Hid ((if n ≤ 60 then Value.slice A n c else .slice none 0 0) = .slice A n c) := if_pos h60
    generalize (if n ≤ 60 then Value.slice A n c else .slice none 0 0) = V at HE ⊢
    go_enter Try.func44, Try.ntmps44
    go_wp2_with fail
    go_ret
    exact ⟨by rw [HE.out]; rfl, rfl⟩
  · have HE : Hid ((if n ≤ 60 then Value.slice A n c else .slice none 0 0) = .slice none 0 0) := if_neg h60
    generalize (if n ≤ 60 then Value.slice A n c else .slice none 0 0) = V at HE ⊢
    have h60' : 60 < n := by omega
    clear h60
    go_enter Try.func44, Try.ntmps44
    go_wp2_with fail
    go_ret
    exact ⟨by rw [HE.out]; rfl, rfl⟩
theorem pos_len {m : Nat} {xs : List Int} (h : xs.length = m) : decide (0 < m) = !xs.isEmpty := by
  subst h; cases xs with
  | nil => rfl
  | cons a l => simp
set_option maxHeartbeats 1600000 in
theorem impl_bigIntV (w : World) (s : Bool) (A : Option Addr) (n c : Nat) (D : Option Addr) (m k : Nat) (hv : (if n ≤ 60 then Value.slice A n c else .slice none 0 0) = .slice D m k) (ys : List Int) (hm : ys.length = m) :
    Calls Try.prog 39 #[.agg #[.slice A n c, .bool s]] w fun e w' => e = .returned (.agg #[.bool (s && !ys.isEmpty), .slice D m k]) ∧ Below w.heap.size w w' := by
  obtain ⟨W, hW⟩ : ∃ W, W = (w.alloc (.cells #[.slice A n c, .bool s] 68)).alloc (.cells #[.bool false, .slice none 0 0] 30) := ⟨_, rfl⟩
  have hb : Below w.heap.size w W := by rw [hW]; exact ((Below.refl _ _).alloc (Nat.le_refl _) _).alloc (by rw [alloc_size]; omega) _
  have k1 : Box W w.heap.size 68 #[.slice A n c, .bool s] := by rw [hW]; exact (Box.last w _ _ rfl).alloc _
  have k2 : Box W (w.heap.size + 1) 30 #[.bool false, .slice none 0 0] := by rw [hW]; exact Box.last _ _ _ (alloc_size _ _).symm
  have c0 := k1.cell 0
  have c1 := k1.cell 1
  have z0 := k2.frozen 0
  have z1 := k2.frozen 1
  have d0 := k2.cell 0
  have d1 := k2.cell 1
  simp only [List.getElem?_toArray, List.getElem?_cons_zero, List.getElem?_cons_succ] at c0 c1 d0 d1
  have HF := hide (impl_fit W A n c)
  rw [hv] at HF
  have HR := hide (fun b : Bool => (⟨(k2.set 0 _).set 1 _, (hb.setCell (by show w.heap.size ≤ w.heap.size + 1; omega) _).setCell (by show w.heap.size ≤ w.heap.size + 1; omega) _⟩ : Box ((W.setCell ⟨w.heap.size + 1, 0, none⟩ (.bool b)).setCell ⟨w.heap.size + 1, 1, none⟩ (.slice D m k)) (w.heap.size + 1) 30 #[.bool b, .slice D m k] ∧ Below w.heap.size w ((W.setCell ⟨w.heap.size + 1, 0, none⟩ (.bool b)).setCell ⟨w.heap.size + 1, 1, none⟩ (.slice D m k))))
  have HP := hide (pos_len hm)
  clear hb k2 k1 hm hv
  go_enter Try.func39, Try.ntmps39
  cases s
  · go_wp2_with fail
    rw [← hW]
    clear hW
    go_wp2_with fail
    refine HF.out.mono ?_
    rintro e w1 ⟨rfl, rfl⟩
    go_wp2_with fail
    refine bodyPost_ret (results_cell_row rfl _ _ (w.heap.size + 1) _ #[.bool false, .slice D m k] (0, 0) _ rfl (HR.out _).1 Try.underlying30 rfl Try.sizeBig) rfl ?_
    exact ⟨rfl, (HR.out _).2⟩
  · go_wp2_with fail
    rw [← hW]
    clear hW
    go_wp2_with fail
    refine HF.out.mono ?_
    rintro e w1 ⟨rfl, rfl⟩
    go_wp2_with fail
    refine bodyPost_ret (results_cell_row rfl _ _ (w.heap.size + 1) _ #[.bool (decide (0 < m)), .slice D m k] (0, 0) _ rfl (HR.out _).1 Try.underlying30 rfl Try.sizeBig) rfl ?_
    exact ⟨by rw [HP.out]; rfl, (HR.out _).2⟩
theorem impl_bigInt (w : World) (s : Bool) (A : Option Addr) (n c : Nat) (xs : List Int) (hn : xs.length = n) (h60 : n ≤ 60) :
    Calls Try.prog 39 #[.agg #[.slice A n c, .bool s]] w fun e w' => e = .returned (.agg #[.bool (s && !xs.isEmpty), .slice A n c]) ∧ Below w.heap.size w w' :=
  impl_bigIntV w s A n c A n c (if_pos h60) xs hn
/-- a sign and a list that are the number z, whose sign says nothing where z is 0 -/
def SgnOk (g : Bool) (z : Int) : Prop := z ≠ 0 → g = decide (z < 0)
theorem sgn_cap {g : Bool} {z : Int} (h : SgnOk g z) : (g && !(capL z.natAbs).isEmpty) = (capZ z).1 := by
  show _ = (decide (z < 0) && !(capL z.natAbs).isEmpty)
  by_cases hz : z = 0
  · subst hz
    show (g && !(capL 0).isEmpty) = (decide ((0 : Int) < 0) && !(capL 0).isEmpty)
    rw [capL_zero]; simp
  · rw [h hz]
theorem impl_bigIntZ (w : World) (lo hi : Nat) (s : Bool) (A : Option Addr) (n c : Nat) (z : Int) (hs : SgnOk s z) (o : Own w lo hi 3 (.slice A n c) n (iv (limbs z.natAbs))) (hh : hi ≤ w.heap.size) :
    Calls Try.prog 39 #[.agg #[.slice A n c, .bool s]] w fun e w' => ∃ v, e = .returned (.agg #[.bool (capZ z).1, v]) ∧ Own w' lo hi 3 v (capZ z).2.length (iv (capZ z).2) ∧ Below w.heap.size w w' := by
  have hn : (limbs z.natAbs).length = n := by have := o.len; rwa [iv_len] at this
  by_cases h60 : n ≤ 60
  · have e : capL z.natAbs = limbs z.natAbs := by rw [capL, if_pos (by omega)]
    refine (impl_bigIntV w s A n c A n c (if_pos h60) (limbs z.natAbs) hn).mono ?_
    rintro e1 w1 ⟨rfl, hb⟩
    refine ⟨_, by rw [← e, sgn_cap hs], ?_, hb⟩
    show Own w1 lo hi _ _ (capL z.natAbs).length (iv (capL z.natAbs))
    rw [e, hn]
    exact o.below hb hh
  · have e : capL z.natAbs = [] := by rw [capL, if_neg (by omega)]
    refine (impl_bigIntV w s A n c none 0 0 (if_neg h60) [] rfl).mono ?_
    rintro e1 w1 ⟨rfl, hb⟩
    refine ⟨_, by rw [← e, sgn_cap hs], ?_, hb⟩
    show Own w1 lo hi _ _ (capL z.natAbs).length (iv (capL z.natAbs))
    rw [e]
    exact Own.nil _ _ _ _
end Go.Proofs.Ytdcceppednngjab

/-
  The program's big integers: contracts (2): BigIntOk, magnitudeOf, BigIntOf, toInt, BigIntToInt, copied, compare.
-/



namespace Go.Proofs.Ytdcceppednngjab
open Go.RowKit
set_option linter.unusedVariables false

set_option maxHeartbeats 400000 in
theorem impl_BigIntOk (w : World) (B : Nat) (hB : B ≤ w.heap.size) (s : Bool) (A : Option Addr) (n c : Nat) (xs : List Int) (R : RdI w B A n xs) :
    Calls Try.prog 33 #[.agg #[.bool s, .slice A n c]] w fun e w' => e = .returned (.bool (bigB s xs)) ∧ Below w.heap.size w w' := by
  have hb0 := below_new w (.cells #[.bool s, .slice A n c] 30)
  go_enter Try.func33, Try.ntmps33
  go_wp2_with fail
  refine (impl_signedOf _ s A n c).mono ?_
  rintro e w1 ⟨rfl, hb1⟩
  have hb1' := below_then hb0 hb1
  have hs1 := hb1'.size
  have R1 := R.below (hb1'.mono hB)
  go_wp2_with fail
  refine (impl_isValid w1 B (by omega) s A n c xs R1).mono ?_
  rintro e w2 ⟨rfl, hb2⟩
  have hb2' := below_then hb1' hb2
  go_wp2_with fail
  go_ret
  exact ⟨rfl, hb2'⟩

set_option maxHeartbeats 400000 in
theorem impl_compare (w : World) (B : Nat) (A A' : Option Addr) (n m c c' : Nat) (xs ys : List Int) (hn : xs.length = n) (hm : ys.length = m) (hx : Rd w B A (iv xs)) (hy : Rd w B A' (iv ys)) (hl : n ≤ 100000000) (hl' : m ≤ 100000000) (hcx : Canon xs) (hcy : Canon ys) :
    Calls Try.prog 61 #[.slice A n c, .slice A' m c'] w fun e w' => e = .returned (.int .i64 (cmpV (val xs) (val ys))) ∧ ∃ d, w' = w.drewN d := by
  go_enter Try.func61, Try.ntmps61
  go_wp2_with fail
  refine (impl_Cmp w B A A' n m c c' xs ys hn hm hx hy hl hl' hcx hcy).mono ?_
  rintro e w1 ⟨rfl, hd⟩
  have HD := hide hd
  clear hd
  go_wp2_with fail
  go_ret
  exact ⟨rfl, HD.out⟩

set_option maxHeartbeats 400000 in
theorem impl_copied (w : World) (B : Nat) (hB : B ≤ w.heap.size) (A : Option Addr) (n c : Nat) (xs : List Int) (R : RdI w B A n xs) (hl : n ≤ 1000000) :
    Calls Try.prog 66 #[.slice A n c] w fun e w' => ∃ v, e = .returned v ∧ Own w' w.heap.size w'.heap.size 3 v n (iv xs) ∧ Below w.heap.size w w' := by
  have HC := hide (impl_widened w B hB A n c n xs R.1 R.2.1 (Nat.le_refl _) hl)
  have hxl := R.1
  go_enter Try.func66, Try.ntmps66
  go_wp2_with fail
  refine HC.out.mono ?_
  rintro e w1 ⟨g, rfl, hg, hblk, hb⟩
  rw [Nat.sub_self, List.replicate_zero, List.append_nil] at hblk
  have hlt := hblk.lt
  have ho := (hblk.own n n (by omega)).wider hg (show g + 1 ≤ w1.heap.size by omega)
  rw [List.take_of_length_le (by omega)] at ho
  have HO := hide ho
  clear hblk ho
  go_wp2_with fail
  go_ret
  exact ⟨_, rfl, HO.out, hb⟩
end Go.Proofs.Ytdcceppednngjab

/-
  The program's big integers: contracts (3): magnitudeOf, BigIntOf.
-/


namespace Go.Proofs.Ytdcceppednngjab
open Go.RowKit
set_option linter.unusedVariables false

theorem limbs_small {n : Nat} (h : n < 1000000000000000000000000000) : (limbs n).length ≤ 3 := limbs_len.2 h
set_option maxHeartbeats 800000 in
theorem impl_magnitudeOf (w : World) (n : Int) (hwf : (Lit.int .i64 n).wf = true) :
    Calls Try.prog 40 #[.int .i64 n] w fun e w' => ∃ v, e = .returned v ∧ Own w' w.heap.size w'.heap.size 3 v (limbs n.natAbs).length (iv (limbs n.natAbs)) ∧ Below w.heap.size w w' := by
  obtain ⟨h1, h2⟩ := bounds_i64 hwf
  by_cases hmin : n = -9223372036854775808
  · subst hmin
    go_enter Try.func40, Try.ntmps40
    go_wp2_with fail
    refine (impl_NatOf w w.heap.size (Nat.le_refl _) 9223372036854775807 (by decide)).mono ?_
    rintro e w1 ⟨v1, rfl, o1, hb1⟩
    obtain ⟨A1, c1, rfl⟩ := o1.form
    have hs1 := hb1.size
    go_wp2_with fail
    refine (impl_NatOf w1 w1.heap.size (Nat.le_refl _) 1 (by decide)).mono ?_
    rintro e w2 ⟨v2, rfl, o2, hb2⟩
    obtain ⟨A2, c2, rfl⟩ := o2.form
    have hs2 := hb2.size
    have o1' := o1.below hb2 (by omega)
    have l1 : (limbs (Int.toNat 9223372036854775807)).length ≤ 3 := limbs_small (by decide)
    have l2 : (limbs (Int.toNat 1)).length ≤ 3 := limbs_small (by decide)
    go_wp2_with fail
    refine (impl_NatAdd w2 w2.heap.size (Nat.le_refl _) A1 _ c1 _ (RdI.of_own o1' (by omega) (limbs_ok _)) A2 _ c2 _ (RdI.of_own o2 (by omega) (limbs_ok _))).mono ?_
    rintro e w3 ⟨v3, rfl, o3, hb3⟩
    have e3 : addL (limbs (Int.toNat 9223372036854775807)) (limbs (Int.toNat 1)) = limbs (Int.natAbs (-9223372036854775808)) := by
      rw [addL, natB_limbs (by decide), natB_limbs (by decide)]
      show capL _ = _
      rw [natV_limbs, natV_limbs]
      exact capL_of (by decide)
    rw [e3] at o3
    have o3' := o3.wider (show w.heap.size ≤ w2.heap.size by omega) (Nat.le_refl _)
    have hb3' := (hb1.trans (hb2.mono hs1)).trans (hb3.mono (by omega))
    clear o1 o1' o2 o3 hb1 hb2 hb3 e3
    go_wp2_with fail
    go_ret
    exact ⟨_, rfl, o3', hb3'⟩
  · have hne : (n == -9223372036854775808) = false := by simp [hmin]
    have hmin : IntKind.i64.min = -9223372036854775808 := rfl
    have hmax : IntKind.i64.max = 9223372036854775807 := rfl
    have hmw : (Lit.int .i64 (-n)).wf = true := by simp only [Lit.wf, Bool.and_eq_true, decide_eq_true_eq]; omega
    clear hmin hmax
    by_cases hlt : n < -n
    · have e1 : n.natAbs = (-n).toNat := by omega
      rw [e1]
      have HW := hide hmw
      clear e1 hmw
      go_enter Try.func40, Try.ntmps40
      go_wp2_with fail
      refine (impl_NatOf w w.heap.size (Nat.le_refl _) (-n) HW.out).mono ?_
      rintro e w1 ⟨v1, rfl, o1, hb1⟩
      go_wp2_with fail
      go_ret
      exact ⟨_, rfl, o1, hb1⟩
    · have hle : -n ≤ n := by omega
      have e1 : n.natAbs = n.toNat := by omega
      rw [e1]
      have HW := hide hwf
      clear e1 hmw hwf
      go_enter Try.func40, Try.ntmps40
      go_wp2_with fail
      refine (impl_NatOf w w.heap.size (Nat.le_refl _) n HW.out).mono ?_
      rintro e w1 ⟨v1, rfl, o1, hb1⟩
      go_wp2_with fail
      go_ret
      exact ⟨_, rfl, o1, hb1⟩

set_option maxHeartbeats 800000 in
theorem impl_BigIntOf (w : World) (B : Nat) (hB : B ≤ w.heap.size) (n : Int) (hwf : (Lit.int .i64 n).wf = true) :
    Calls Try.prog 19 #[.int .i64 n] w fun e w' => ∃ v, e = .returned (.agg #[.bool (capZ n).1, v]) ∧ Own w' w.heap.size w'.heap.size 3 v (capZ n).2.length (iv (capZ n).2) ∧ Below w.heap.size w w' := by
  obtain ⟨h1, h2⟩ := bounds_i64 hwf
  have hb0 := below_new w (.cells #[.bool false, .slice none 0 0] 30)
  have k0 := Box.last w 30 #[.bool false, .slice none 0 0] rfl
  have hs0 := hb0.size
  have e2 : ((decide (n < 0)) && !(limbs n.natAbs).isEmpty, limbs n.natAbs) = capZ n := by
    rw [← capL_of (n := n.natAbs) (Nat.lt_trans (show n.natAbs < 1000000000000000000000000000 by omega) (by decide)), capZ_make]
    by_cases h : n < 0
    · simp [h]; congr 1; omega
    · simp [h]; congr 1; omega
  rw [← e2]
  clear e2
  go_enter Try.func19, Try.ntmps19
  go_wp2_with fail
  refine (impl_magnitudeOf _ n hwf).mono ?_
  rintro e w1 ⟨v1, rfl, o1, hb1⟩
  obtain ⟨A1, c1, rfl⟩ := o1.form
  have hb1' := below_then hb0 hb1
  have k1 := k0.below hb1 (by rw [alloc_size]; omega)
  have l1 : (limbs n.natAbs).length ≤ 3 := limbs_small (by omega)
  go_wp2_with fail
  refine (impl_bigInt w1 (decide (n < 0)) A1 _ c1 (limbs n.natAbs) rfl (by omega)).mono ?_
  rintro e w2 ⟨rfl, hb2⟩
  have hb2' := below_then hb1' hb2
  have k2 := k1.below hb2 k1.lt
  have hb1s := alloc_size w (.cells #[.bool false, .slice none 0 0] 30)
  have HR := hide (ret_big (x := .bool (decide (n < 0) && !(limbs n.natAbs).isEmpty)) k2 (o1.below hb2 (Nat.le_refl _)) hb2' (Nat.le_refl _) (by omega) hb2.size)
  have hz0 := k2.frozen 0
  have hz1 := k2.frozen 1
  have d0 := k2.cell 0
  have d1 := k2.cell 1
  simp only [List.getElem?_toArray, List.getElem?_cons_zero, List.getElem?_cons_succ] at d0 d1
  clear k0 k1 k2 o1 hb0 hb1 hb1' hb2 hb2'
  go_wp2_with fail
  refine bodyPost_ret (results_cell_row rfl _ _ w.heap.size _ #[.bool (decide (n < 0) && !(limbs n.natAbs).isEmpty), .slice A1 (limbs n.natAbs).length c1] (0, 0) _ rfl HR.out.1 Try.underlying30 rfl Try.sizeBig) rfl ?_
  exact ⟨_, rfl, HR.out.2.1, HR.out.2.2⟩
end Go.Proofs.Ytdcceppednngjab

/-
  The program's big integers: contracts (4): BigIntToInt, BigIntNeg.
-/

namespace Go.Proofs.Ytdcceppednngjab
open Go.RowKit
set_option linter.unusedVariables false

theorem negZ_no {s : Bool} {xs : List Int} (h : bigB s xs = false) : negZ s xs = noZ := by rw [negZ, h]; rfl
set_option maxHeartbeats 1600000 in
theorem impl_BigIntNeg (w : World) (B : Nat) (hB : B ≤ w.heap.size) (s : Bool) (A : Option Addr) (n c : Nat) (xs : List Int) (R : RdI w B A n xs) :
    Calls Try.prog 50 #[.agg #[.bool s, .slice A n c]] w fun e w' => ∃ v, e = .returned (.agg #[.bool (negZ s xs).1, v]) ∧ Own w' w.heap.size w'.heap.size 3 v (negZ s xs).2.length (iv (negZ s xs).2) ∧ Below w.heap.size w w' := by
  obtain ⟨W0, hW0⟩ : ∃ W0, W0 = (w.alloc (.cells #[.bool s, .slice A n c] 30)).alloc (.cells #[.bool false, .slice none 0 0] 30) := ⟨_, rfl⟩
  have hb0 : Below w.heap.size w W0 := by rw [hW0]; exact below_alloc (below_new _ _) _
  have k0 : Box W0 (w.heap.size + 1) 30 #[.bool false, .slice none 0 0] := by rw [hW0]; exact Box.last _ _ _ (alloc_size _ _).symm
  have kx : Box W0 w.heap.size 30 #[.bool s, .slice A n c] := by rw [hW0]; exact (Box.last _ _ _ rfl).alloc _
  have hs0 : W0.heap.size = w.heap.size + 2 := by rw [hW0, alloc_size, alloc_size]
  have x0 := kx.cell 0
  have x1 := kx.cell 1
  simp only [List.getElem?_toArray, List.getElem?_cons_zero, List.getElem?_cons_succ] at x0 x1
  have HN := hide (fun (h : bigB s xs = true) => negZ_ok h)
  have HM := hide (fun (h : bigB s xs = false) => negZ_no h)
  generalize negZ s xs = Z at HN HM ⊢
  go_enter Try.func50, Try.ntmps50
  go_wp2_with fail
  rw [← hW0]
  clear hW0 kx
  refine (impl_signedOf _ s A n c).mono ?_
  rintro e w1 ⟨rfl, hb1⟩
  have hb1' := below_then hb0 hb1
  have k1 := Box.last w1 68 #[.slice A n c, .bool s] rfl
  have r1 := (k0.below hb1 (by omega)).alloc (.cells #[.slice A n c, .bool s] 68)
  have hs1 := hb1.size
  have hbW := below_alloc hb1' (.cells #[.slice A n c, .bool s] 68)
  have hsW := hbW.size
  have RW := R.below (hbW.mono hB)
  clear x0 x1 k0
  go_wp2_with fail
  refine (impl_isValid _ B (by omega) s A n c xs RW).mono ?_
  rintro e w2 ⟨rfl, hb2⟩
  have k2 := k1.below hb2 k1.lt
  have r2 := r1.below hb2 r1.lt
  have hs2x := hb2.size
  rw [alloc_size] at hs2x
  have hb2' := below_then hbW hb2
  have hs2 := hb2'.size
  have R2 := R.below (hb2'.mono hB)
  have d0 := k2.cell 0
  have d1 := k2.cell 1
  have z0 := r2.frozen 0
  have z1 := r2.frozen 1
  have t0 := r2.cell 0
  have t1 := r2.cell 1
  simp only [List.getElem?_toArray, List.getElem?_cons_zero, List.getElem?_cons_succ] at d0 d1 t0 t1
  clear hb0 hb1 hb1' k1 hbW hsW RW hb2 r1
  by_cases hv : bigB s xs = true
  · have hn60 : n ≤ 60 := by have := ((natB_iff xs).1 (bigB_nat hv)).2; have := R.1; omega
    have hxl := R.1
    have HZ := hide (HN.out hv)
    have HS0 : Hid (Below w2.heap.size w2 w2.drew) := (Below.refl _ _).drew
    have HR2 := hide r2
    have HK2 := hide k2
    have HKS := hide (fun (W : World) (h : Below w2.heap.size w2 W) => (⟨(HK2.out.below h HK2.out.lt).cell 0, (HK2.out.below h HK2.out.lt).cell 1⟩ : W.cell? ⟨w1.heap.size, 0, none⟩ = some (.slice A n c) ∧ W.cell? ⟨w1.heap.size, 1, none⟩ = some (.bool s)))
    have HKR := hide (fun (W : World) (h : Below w2.heap.size w2 W) => (⟨(HR2.out.below h HR2.out.lt).cell 0, (HR2.out.below h HR2.out.lt).cell 1, (HR2.out.below h HR2.out.lt).frozen 0, (HR2.out.below h HR2.out.lt).frozen 1⟩ : W.cell? ⟨w.heap.size + 1, 0, none⟩ = some (.bool false) ∧ W.cell? ⟨w.heap.size + 1, 1, none⟩ = some (.slice none 0 0) ∧ W.frozen? ⟨w.heap.size + 1, 0, none⟩ = false ∧ W.frozen? ⟨w.heap.size + 1, 1, none⟩ = false))
    have HKT := hide (fun (W : World) (h : Below w2.heap.size w2 W) (x y : Value) => (⟨(((HK2.out.below h HK2.out.lt).setv (show w1.heap.size ≠ w.heap.size + 1 by omega) 0 x).setv (show w1.heap.size ≠ w.heap.size + 1 by omega) 1 y).cell 0, (((HK2.out.below h HK2.out.lt).setv (show w1.heap.size ≠ w.heap.size + 1 by omega) 0 x).setv (show w1.heap.size ≠ w.heap.size + 1 by omega) 1 y).cell 1⟩ : ((W.setCell ⟨w.heap.size + 1, 0, none⟩ x).setCell ⟨w.heap.size + 1, 1, none⟩ y).cell? ⟨w1.heap.size, 0, none⟩ = some (.slice A n c) ∧ ((W.setCell ⟨w.heap.size + 1, 0, none⟩ x).setCell ⟨w.heap.size + 1, 1, none⟩ y).cell? ⟨w1.heap.size, 1, none⟩ = some (.bool s)))
    have HC := hide (fun (W : World) (h : Below w2.heap.size w2 W) => impl_copied W B (by have := h.size; omega) A n c xs (R2.below (h.mono (by omega))) (by omega))
    have HD := hide (fun (W : World) (A' : Option Addr) (c' : Nat) => impl_bigInt W (!s) A' n c' xs hxl (by omega))
    have HB2 := hide hb2'
    have HX := hide hxl
    clear HN HM r2 k2 hb2' R2 R hxl t0 t1 z0 z1
    rw [hv]
    go_wp2_with fail
    go_region_held3 (fun w' => w'.cell? ⟨w1.heap.size, 0, none⟩ = some (.slice A n c) ∧ w'.cell? ⟨w1.heap.size, 1, none⟩ = some (.bool s))
        (first | (with_reducible exact HKT.out _ HS2.out _ _) | (with_reducible exact HKS.out _ HS2.out) | (with_reducible exact HKS.out _ HS1.out) | (with_reducible exact HKS.out _ HS0.out))
        (first
          | (go_at_call 66; refine (HC.out _ HS0.out).mono ?_; rintro e w3 ⟨v3, rfl, o3, hb3⟩; obtain ⟨A3, c3, rfl⟩ := o3.form; have HS1 := hide (below_then HS0.out hb3))
          | (go_at_call 39; refine (HD.out _ _ _).mono ?_; rintro e w4 ⟨rfl, hb4⟩; have HS2 := hide (below_then HS1.out hb4); obtain ⟨t0, t1, z0, z1⟩ := HKR.out _ HS2.out))
    have HO := hide (ret_big (x := .bool (!s && !xs.isEmpty)) (HR2.out.below HS2.out HR2.out.lt) (o3.below hb4 (Nat.le_refl _)) (below_then HB2.out HS2.out) (by omega) (by show w.heap.size + 1 < w2.heap.size; omega) hb4.size)
    have hz := HZ.out
    subst hz
    have hxl := HX.out
    subst hxl
    clear o3 hb3 hb4 t0 t1 z0 z1
    go_wp2_with fail
    refine bodyPost_ret (results_cell_row rfl _ _ (w.heap.size + 1) _ #[.bool (!s && !xs.isEmpty), .slice A3 xs.length c3] (0, 0) _ rfl HO.out.1 Try.underlying30 rfl Try.sizeBig) rfl ?_
    exact ⟨_, rfl, HO.out.2.1, HO.out.2.2⟩
  · have hv : bigB s xs = false := by simpa using hv
    have hz := HM.out hv
    subst hz
    have HO := hide (ret_big0 (x := .bool false) (v := .slice none 0 0) r2 hb2' (show w.heap.size ≤ w.heap.size + 1 by omega))
    clear HN HM r2 k2 hb2' R2 R
    rw [hv]
    go_wp2_with fail
    refine bodyPost_ret (results_cell_row rfl _ _ (w.heap.size + 1) _ #[.bool false, .slice none 0 0] (0, 0) _ rfl HO.out.1 Try.underlying30 rfl Try.sizeBig) rfl ?_
    exact ⟨_, rfl, Own.nil _ _ _ _, HO.out.2⟩
end Go.Proofs.Ytdcceppednngjab
