/-
  The texts BigR, BigR2, BigR3, put together; each has its own heading below. No condition of ours.
-/
import Derived.Test.YtocllmaikngoaaaGreatDoorRA
import Derived.Test.YtocllmaikngoaaaGreatDoorNatLen
import Derived.Test.YtocllmaikngoaaaGreatDoorPB
import Derived.Deep.RegionHeld3
/-
  The reference's big integers: contracts (1): Ok, l03Make.
-/




namespace Go.Proofs.YtocllmaikngoaaaGreatDoor
open Go.RowKit
set_option linter.unusedVariables false

theorem notEmpty_len {xs : List Int} {n : Nat} (h : xs.length = n) : (!xs.isEmpty) = decide (0 < (n : Int)) := by
  subst h; cases xs with
  | nil => rfl
  | cons a l => simp
theorem Rd.take {w : World} {B : Nat} {A : Option Addr} {xs : List Value} (h : Rd w B A xs) (m : Nat) : Rd w B A (xs.take m) := by
  rcases h with e | ⟨ad, hA, hb, hc⟩
  · subst e; exact .inl (by simp)
  · refine .inr ⟨ad, hA, hb, fun k u hu => hc k u ?_⟩
    rw [List.getElem?_take] at hu
    split at hu
    · exact hu
    · cases hu
set_option maxHeartbeats 800000 in
theorem spec_BigIntOk (w : World) (B : Nat) (hB : B ≤ w.heap.size) (s : Bool) (A : Option Addr) (n c : Nat) (xs : List Int) (R : RdI w B A n xs) :
    Calls Tryz.prog 127 #[.agg #[.bool s, .slice A n c]] w fun e w' => e = .returned (.bool (bigB s xs)) ∧ Below w.heap.size w w' := by
  have hb0 := below_new w (.cells #[.bool s, .slice A n c] 45)
  have hs0 := hb0.size
  have R1 := R.below (hb0.mono hB)
  have HC := hide (spec_NatOk _ B (by omega) A n c xs R1)
  have hxl := R.1
  clear R1
  by_cases hn : natB xs = true
  · rw [hn] at HC
    cases s
    · have hv : bigB false xs = true := by rw [bigB, hn]; rfl
      rw [hv]
      go_enter Tryz.func127, Tryz.ntmps127
      go_wp2_with fail
      refine HC.out.mono ?_
      rintro e w1 ⟨rfl, rfl⟩
      go_wp2_with fail
      go_ret
      exact ⟨rfl, hb0⟩
    · have hv : bigB true xs = decide (0 < (n : Int)) := by rw [bigB, hn, ← notEmpty_len hxl]; rfl
      rw [hv]
      clear hv
      go_enter Tryz.func127, Tryz.ntmps127
      go_wp2_with fail
      refine HC.out.mono ?_
      rintro e w1 ⟨rfl, rfl⟩
      by_cases h0 : 0 < (n : Int)
      · go_wp2_with fail
        go_ret
        exact ⟨by simp, hb0⟩
      · go_wp2_with fail
        go_ret
        exact ⟨by simp, hb0⟩
  · have hn : natB xs = false := by simpa using hn
    rw [hn] at HC
    rw [bigB_bad hn]
    go_enter Tryz.func127, Tryz.ntmps127
    go_wp2_with fail
    refine HC.out.mono ?_
    rintro e w1 ⟨rfl, rfl⟩
    go_wp2_with fail
    go_ret
    exact ⟨rfl, hb0⟩
set_option maxHeartbeats 800000 in
theorem spec_CapR (w : World) (B : Nat) (A : Option Addr) (n c : Nat) (xs : List Int) (hn : xs.length = n) (hx : Rd w B A (iv xs)) (hc : n ≤ c) (hcm : c ≤ maxLen) :
    Calls Tryz.prog 203 #[.slice A n c] w fun e w' => ∃ A1 c1, e = .returned (.slice A1 (capT xs).length c1) ∧ Rd w B A1 (iv (capT xs)) ∧ w = w' := by
  have hcm' := hcm
  unfold maxLen at hcm'
  go_enter Tryz.func203, Tryz.ntmps203
  go_wp2_with fail
  refine (spec_Trim w B A n c xs hn hx hc hcm).mono ?_
  rintro e w' ⟨m, rfl, hm, hT, rfl⟩
  have hml : (trim xs).length = m := by rw [hT, List.length_take]; omega
  by_cases h60 : m ≤ 60
  · have HC : Hid (capT xs = trim xs) := by show _ = _; rw [capT, if_pos (by omega)]
    have HM := hide hml
    have HT := hide hT
    have HX := hide hx
    clear hml hT hx hcm
    go_wp2_with fail
    go_ret
    refine ⟨A, c, by rw [HC.out, HM.out]; rfl, ?_, rfl⟩
    rw [HC.out, HT.out, show iv (xs.take m) = (iv xs).take m by simp [iv, List.map_take]]
    exact HX.out.take m
  · have HC : Hid (capT xs = []) := by show _ = _; rw [capT, if_neg (by omega)]
    have h60' : 60 < m := by omega
    clear hml hT h60 hx hcm
    go_wp2_with fail
    go_ret
    exact ⟨none, 0, by rw [HC.out]; rfl, by rw [HC.out]; exact .inl rfl, rfl⟩
theorem own_zero (w : World) (E : TypeId) : (w.alloc (.cells #[] E)).ownsRow w.heap.size E 1 (.slice (some ⟨w.heap.size, 0, none⟩) 0 0) 0 [] :=
  ⟨rfl, .inr ⟨w.heap.size, 0, #[], rfl, Nat.le_refl _, heap_last rfl, Nat.le_refl _, by unfold maxLen; omega, rfl, rfl⟩⟩
theorem capT_len (xs : List Int) : (capT xs).length ≤ 60 := by unfold capT; split <;> simp_all
theorem make_end {w W W' : World} {E F : TypeId} {a b v : Value} {L : List Int} (x : Bool) (k : Box W' w.heap.size E #[a, b]) (o : W'.ownsRow (w.heap.size + 1) F 1 v L.length (iv L)) (hb : Below w.heap.size w W) (hb2 : Below (w.heap.size + 1) W W') :
    Box ((W'.setCell ⟨w.heap.size, 0, none⟩ (.bool x)).setCell ⟨w.heap.size, 1, none⟩ v) w.heap.size E #[.bool x, v] ∧ Own ((W'.setCell ⟨w.heap.size, 0, none⟩ (.bool x)).setCell ⟨w.heap.size, 1, none⟩ v) w.heap.size ((W'.setCell ⟨w.heap.size, 0, none⟩ (.bool x)).setCell ⟨w.heap.size, 1, none⟩ v).heap.size F v L.length (iv L) ∧ Below w.heap.size w ((W'.setCell ⟨w.heap.size, 0, none⟩ (.bool x)).setCell ⟨w.heap.size, 1, none⟩ v) := by
  have o2 := Own.of_row o (Nat.le_refl _)
  exact ret_big k o2 (hb.trans (hb2.mono (Nat.le_succ _))) (Nat.le_refl _) (Nat.lt_succ_self _) (Nat.le_refl _)
set_option maxHeartbeats 1600000 in
theorem spec_Make (w : World) (B : Nat) (hB : B ≤ w.heap.size) (s : Bool) (A : Option Addr) (n c : Nat) (xs : List Int) (hn : xs.length = n) (hx : Rd w B A (iv xs)) (hc : n ≤ c) (hcm : c ≤ maxLen) :
    Calls Tryz.prog 164 #[.bool s, .slice A n c] w fun e w' => ∃ v, e = .returned (.agg #[.bool (s && !(capT xs).isEmpty), v]) ∧ Own w' w.heap.size w'.heap.size 3 v (capT xs).length (iv (capT xs)) ∧ Below w.heap.size w w' := by
  have hb0 := below_new w (.cells #[.bool false, .slice none 0 0] 45)
  have k0 := Box.last w 45 #[.bool false, .slice none 0 0] rfl
  have hs0 := alloc_size w (.cells #[.bool false, .slice none 0 0] 45)
  have HC := hide (spec_CapR (w.alloc (.cells #[.bool false, .slice none 0 0] 45)) B A n c xs hn (hx.below (hb0.mono hB)) hc hcm)
  have hl60 := capT_len xs
  clear hx hcm hc hn
  generalize capT xs = L at *
  obtain ⟨b, hbe⟩ : ∃ b, b = (s && !L.isEmpty) := ⟨_, rfl⟩
  rw [← hbe]
  rw [notEmpty_len (xs := L) rfl] at hbe
  cases s
  · obtain rfl : b = false := hbe
    go_enter Tryz.func164, Tryz.ntmps164
    go_wp2_with fail
    refine HC.out.mono ?_
    rintro e w1 ⟨A1, c1, rfl, hr, rfl⟩
    have hE := own_zero (w.alloc (.cells #[.bool false, .slice none 0 0] 45)) 3
    rw [hs0] at hE
    have HE := hide hE
    have HRD := hide (hr.wider (show B ≤ (w.alloc (.cells #[.bool false, .slice none 0 0] 45)).heap.size by omega) |>.alloc (Nat.le_refl _) (.cells #[] 3))
    have HK := hide (k0.alloc (.cells #[] 3))
    have HB := hide (below_alloc hb0 (.cells #[] 3))
    have hsz := alloc_size (w.alloc (.cells #[.bool false, .slice none 0 0] 45)) (.cells #[] 3)
    rw [hs0] at hsz
    have hie := hide (isEmpty_len (xs := L) rfl)
    have HS0 := hide hs0
    clear hE hr HC k0 hb0 hs0
    go_wp2_with (at_builtin; refine wpList_append_rd Tryz.sliceInt rfl rfl _ _ rfl ((w.alloc (.cells #[.bool false, .slice none 0 0] 45)).alloc (.cells #[] 3)) (w.heap.size + 1) _ 0 [] HE.out rfl _ A1 L.length c1 (iv L) rfl (iv_len _) HRD.out (iv_one _) (by unfold maxLen; omega) (by omega) (by omega) ?_; intro v' w2 hown2 hb2; rw [Nat.zero_add, List.nil_append] at hown2; obtain ⟨A2, c2, rfl, _, _, _⟩ := own_reads hown2; have k2 := HK.out.below hb2 (Nat.lt_succ_self _); obtain ⟨t0, t1, z0, z1⟩ := k2.facts)
    have HO := hide (make_end false k2 hown2 HB.out hb2)
    clear hown2 hb2 k2 t0 t1 z0 z1
    refine bodyPost_ret (results_cell_row rfl _ _ w.heap.size _ #[.bool false, .slice A2 L.length c2] (0, 0) _ rfl HO.out.1 Tryz.underlying45 rfl Tryz.sizeBig) rfl ?_
    exact ⟨_, rfl, HO.out.2.1, HO.out.2.2⟩
  · obtain rfl : b = decide (0 < L.length) := by rw [hbe]; simp
    clear hbe
    go_enter Tryz.func164, Tryz.ntmps164
    go_wp2_with fail
    refine HC.out.mono ?_
    rintro e w1 ⟨A1, c1, rfl, hr, rfl⟩
    have hE := own_zero (w.alloc (.cells #[.bool false, .slice none 0 0] 45)) 3
    rw [hs0] at hE
    have HE := hide hE
    have HRD := hide (hr.wider (show B ≤ (w.alloc (.cells #[.bool false, .slice none 0 0] 45)).heap.size by omega) |>.alloc (Nat.le_refl _) (.cells #[] 3))
    have HK := hide (k0.alloc (.cells #[] 3))
    have HB := hide (below_alloc hb0 (.cells #[] 3))
    have hsz := alloc_size (w.alloc (.cells #[.bool false, .slice none 0 0] 45)) (.cells #[] 3)
    rw [hs0] at hsz
    have hie := hide (isEmpty_len (xs := L) rfl)
    have HS0 := hide hs0
    clear hE hr HC k0 hb0 hs0
    go_wp2_with (at_builtin; refine wpList_append_rd Tryz.sliceInt rfl rfl _ _ rfl ((w.alloc (.cells #[.bool false, .slice none 0 0] 45)).alloc (.cells #[] 3)) (w.heap.size + 1) _ 0 [] HE.out rfl _ A1 L.length c1 (iv L) rfl (iv_len _) HRD.out (iv_one _) (by unfold maxLen; omega) (by omega) (by omega) ?_; intro v' w2 hown2 hb2; rw [Nat.zero_add, List.nil_append] at hown2; obtain ⟨A2, c2, rfl, _, _, _⟩ := own_reads hown2; have k2 := HK.out.below hb2 (Nat.lt_succ_self _); obtain ⟨t0, t1, z0, z1⟩ := k2.facts)
    have HO := hide (make_end (decide (0 < L.length)) k2 hown2 HB.out hb2)
    clear hown2 hb2 k2 t0 t1 z0 z1
    refine bodyPost_ret (results_cell_row rfl _ _ w.heap.size _ #[.bool (decide (0 < L.length)), .slice A2 L.length c2] (0, 0) _ rfl HO.out.1 Tryz.underlying45 rfl Tryz.sizeBig) rfl ?_
    exact ⟨_, rfl, HO.out.2.1, HO.out.2.2⟩
end Go.Proofs.YtocllmaikngoaaaGreatDoor

/-
  The reference's big integers: contracts (2): BigIntOf, BigIntToInt, BigIntNeg.
-/


namespace Go.Proofs.YtocllmaikngoaaaGreatDoor
open Go.RowKit
set_option linter.unusedVariables false

theorem make_limbs (s : Bool) (k : Nat) : (s && !(capT (limbs k)).isEmpty, capT (limbs k)) = capZ (if s then -(k : Int) else k) := by
  rw [capT_capL (limbs_ok k) (val_limbs k)]; exact capZ_make s k
theorem make_eq {s : Bool} {xs : List Int} (h : Limbs xs) {k : Nat} (hk : val xs = k) : (s && !(capT xs).isEmpty, capT xs) = capZ (if s then -(k : Int) else k) := by
  rw [capT_capL h hk]; exact capZ_make s k
set_option maxHeartbeats 1600000 in
theorem spec_BigIntOf (w : World) (B : Nat) (hB : B ≤ w.heap.size) (n : Int) (hwf : (Lit.int .i64 n).wf = true) :
    Calls Tryz.prog 126 #[.int .i64 n] w fun e w' => ∃ v, e = .returned (.agg #[.bool (capZ n).1, v]) ∧ Own w' w.heap.size w'.heap.size 3 v (capZ n).2.length (iv (capZ n).2) ∧ Below w.heap.size w w' := by
  obtain ⟨h1, h2⟩ := bounds_i64 hwf
  have hb0 := below_new w (.cells #[.bool false, .slice none 0 0] 45)
  have k0 := Box.last w 45 #[.bool false, .slice none 0 0] rfl
  have hs0 := alloc_size w (.cells #[.bool false, .slice none 0 0] 45)
  by_cases hmin : n = -9223372036854775808
  · subst hmin
    have hz : capZ (-9223372036854775808) = (true && !(capT [854775808, 223372036, 9]).isEmpty, capT [854775808, 223372036, 9]) := (make_eq (s := true) (k := 9223372036854775808) (fun d hd => by simp at hd; omega) (by simp [val])).symm
    rw [hz]
    clear hz
    obtain ⟨W1, hW1⟩ : ∃ W1, W1 = (w.alloc (.cells #[.bool false, .slice none 0 0] 45)).alloc (.cells #[.int .i64 854775808, .int .i64 223372036, .int .i64 9] 3) := ⟨_, rfl⟩
    have hb1 : Below w.heap.size w W1 := by rw [hW1]; exact below_alloc hb0 _
    have k1 : Box W1 w.heap.size 45 #[.bool false, .slice none 0 0] := by rw [hW1]; exact k0.alloc _
    have hs1 : W1.heap.size = w.heap.size + 2 := by rw [hW1, alloc_size, alloc_size]
    have hblk : Blk W1 (w.heap.size + 1) 3 [854775808, 223372036, 9] := by rw [hW1]; exact Blk.of_heap (heap_last hs0.symm) (by unfold maxLen; show 3 ≤ _; omega)
    have hrd := hblk.rd
    clear hblk hb0 k0 hs0
    go_enter Tryz.func126, Tryz.ntmps126
    go_wp2_with fail
    rw [← hW1]
    clear hW1
    refine (spec_Make W1 (w.heap.size + 2) (by omega) true _ 3 3 [854775808, 223372036, 9] rfl hrd (Nat.le_refl _) (by unfold maxLen; omega)).mono ?_
    rintro e w8 ⟨v8, rfl, o8, hb8⟩
    obtain ⟨A8, c8, rfl⟩ := o8.form
    have k8 := k1.below hb8 k1.lt
    have hb8' := below_then hb1 hb8
    have hs8 := hb8.size
    obtain ⟨t0, t1, z0, z1⟩ := k8.facts
    have HO := hide (ret_big (x := .bool (true && !(capT [854775808, 223372036, 9]).isEmpty)) k8 o8 hb8' (Nat.le_refl _) (by omega) (by omega))
    clear k8 o8 hb8 hb8' k1 hb1 hrd
    go_wp2_with fail
    refine bodyPost_ret (results_cell_row rfl _ _ (w.heap.size) _ #[.bool (true && !(capT [854775808, 223372036, 9]).isEmpty), .slice A8 (capT [854775808, 223372036, 9]).length c8] (0, 0) _ rfl HO.out.1 Tryz.underlying45 rfl Tryz.sizeBig) rfl ?_
    exact ⟨_, rfl, HO.out.2.1, HO.out.2.2⟩
  · have hne : (n == -9223372036854775808) = false := by simp [hmin]
    have hmin' : IntKind.i64.min = -9223372036854775808 := rfl
    have hmax' : IntKind.i64.max = 9223372036854775807 := rfl
    have hmw : (Lit.int .i64 (-n)).wf = true := by simp only [Lit.wf, Bool.and_eq_true, decide_eq_true_eq]; omega
    have HW := hide hmw
    have HW2 := hide hwf
    clear hmin' hmax' hmw hwf
    by_cases hlt : n < 0
    · have hz : capZ n = (true && !(capT (limbs (-n).toNat)).isEmpty, capT (limbs (-n).toNat)) := by rw [make_limbs]; show capZ n = capZ (-((-n).toNat : Int)); congr 1; omega
      have hl3 : (limbs (-n).toNat).length ≤ 3 := limbs_len.2 (by omega)
      rw [hz]
      clear hz
      go_enter Tryz.func126, Tryz.ntmps126
      go_wp2_with fail
      refine (spec_NatOf _ _ (Nat.le_refl _) (-n) HW.out).mono ?_
      rintro e w1 ⟨v1, rfl, q1, hb1⟩
      obtain ⟨A1, c1, rfl, _, _, _⟩ := own_reads q1
      obtain ⟨_, hc1, hcm1⟩ := own_nilcap q1
      have k1 := k0.below hb1 (by omega)
      have hb1' := below_then hb0 hb1
      have hs1 := hb1.size
      have hrd := own_rd q1
      have HC1 := hide hc1
      have HCM := hide hcm1
      clear q1 hb1 k0 hb0 hc1 hcm1
      go_wp2_with fail
      refine (spec_Make w1 w1.heap.size (Nat.le_refl _) true A1 _ c1 (limbs (-n).toNat) rfl hrd HC1.out HCM.out).mono ?_
      rintro e w8 ⟨v8, rfl, o8, hb8⟩
      obtain ⟨A8, c8, rfl⟩ := o8.form
      have k8 := k1.below hb8 k1.lt
      have hb8' := below_then hb1' hb8
      have hs8 := hb8.size
      obtain ⟨t0, t1, z0, z1⟩ := k8.facts
      have HO := hide (ret_big (x := .bool (true && !(capT (limbs (-n).toNat)).isEmpty)) k8 o8 hb8' (Nat.le_refl _) (by omega) (by omega))
      clear k8 o8 hb8 hb8' k1 hb1' hrd
      go_wp2_with fail
      refine bodyPost_ret (results_cell_row rfl _ _ (w.heap.size) _ #[.bool (true && !(capT (limbs (-n).toNat)).isEmpty), .slice A8 (capT (limbs (-n).toNat)).length c8] (0, 0) _ rfl HO.out.1 Tryz.underlying45 rfl Tryz.sizeBig) rfl ?_
      exact ⟨_, rfl, HO.out.2.1, HO.out.2.2⟩
    · have hz : capZ n = (false && !(capT (limbs (n).toNat)).isEmpty, capT (limbs (n).toNat)) := by rw [make_limbs]; show capZ n = capZ ((n.toNat : Nat) : Int); congr 1; omega
      have hl3 : (limbs (n).toNat).length ≤ 3 := limbs_len.2 (by omega)
      rw [hz]
      clear hz
      go_enter Tryz.func126, Tryz.ntmps126
      go_wp2_with fail
      refine (spec_NatOf _ _ (Nat.le_refl _) (n) HW2.out).mono ?_
      rintro e w1 ⟨v1, rfl, q1, hb1⟩
      obtain ⟨A1, c1, rfl, _, _, _⟩ := own_reads q1
      obtain ⟨_, hc1, hcm1⟩ := own_nilcap q1
      have k1 := k0.below hb1 (by omega)
      have hb1' := below_then hb0 hb1
      have hs1 := hb1.size
      have hrd := own_rd q1
      have HC1 := hide hc1
      have HCM := hide hcm1
      clear q1 hb1 k0 hb0 hc1 hcm1
      go_wp2_with fail
      refine (spec_Make w1 w1.heap.size (Nat.le_refl _) false A1 _ c1 (limbs (n).toNat) rfl hrd HC1.out HCM.out).mono ?_
      rintro e w8 ⟨v8, rfl, o8, hb8⟩
      obtain ⟨A8, c8, rfl⟩ := o8.form
      have k8 := k1.below hb8 k1.lt
      have hb8' := below_then hb1' hb8
      have hs8 := hb8.size
      obtain ⟨t0, t1, z0, z1⟩ := k8.facts
      have HO := hide (ret_big (x := .bool (false && !(capT (limbs (n).toNat)).isEmpty)) k8 o8 hb8' (Nat.le_refl _) (by omega) (by omega))
      clear k8 o8 hb8 hb8' k1 hb1' hrd
      go_wp2_with fail
      refine bodyPost_ret (results_cell_row rfl _ _ (w.heap.size) _ #[.bool (false && !(capT (limbs (n).toNat)).isEmpty), .slice A8 (capT (limbs (n).toNat)).length c8] (0, 0) _ rfl HO.out.1 Tryz.underlying45 rfl Tryz.sizeBig) rfl ?_
      exact ⟨_, rfl, HO.out.2.1, HO.out.2.2⟩

end Go.Proofs.YtocllmaikngoaaaGreatDoor

/-
  The reference's big integers: contracts (3): l03Add.
-/





namespace Go.Proofs.YtocllmaikngoaaaGreatDoor
open Go.RowKit
set_option linter.unusedVariables false

theorem below_drewNR {B : Nat} {a w : World} (h : Below B a w) (n : Nat) : Below B a (w.drewN n) := ⟨h.os, h.tape, h.output, h.size, h.block⟩
set_option maxHeartbeats 3200000 in
theorem spec_l03Add_same (w : World) (B : Nat) (hB : B ≤ w.heap.size) (s : Bool) (A : Option Addr) (n c : Nat) (xs : List Int) (Rx : RdI w B A n xs) (hx : natB xs = true) (t : Bool) (A' : Option Addr) (m c' : Nat) (ys : List Int) (Ry : RdI w B A' m ys) (hy : natB ys = true) (hst : (s == t) = true) :
    Calls Tryz.prog 162 #[.agg #[.bool s, .slice A n c], .agg #[.bool t, .slice A' m c']] w fun e w' => ∃ v, e = .returned (.agg #[.bool (capZ (zv s xs + zv t ys)).1, v]) ∧ Own w' w.heap.size w'.heap.size 3 v (capZ (zv s xs + zv t ys)).2.length (iv (capZ (zv s xs + zv t ys)).2) ∧ Below w.heap.size w w' := by
  obtain ⟨W0, hW0⟩ : ∃ W0, W0 = ((w.alloc (.cells #[.bool s, .slice A n c] 45)).alloc (.cells #[.bool t, .slice A' m c'] 45)).alloc (.cells #[.bool false, .slice none 0 0] 45) := ⟨_, rfl⟩
  have hb0 : Below w.heap.size w W0 := by rw [hW0]; exact below_alloc (below_alloc (below_new _ _) _) _
  have kx : Box W0 w.heap.size 45 #[.bool s, .slice A n c] := by rw [hW0]; exact ((Box.last _ _ _ rfl).alloc _).alloc _
  have ky : Box W0 (w.heap.size + 1) 45 #[.bool t, .slice A' m c'] := by rw [hW0]; exact (Box.last _ _ _ (alloc_size _ _).symm).alloc _
  have kr : Box W0 (w.heap.size + 2) 45 #[.bool false, .slice none 0 0] := by rw [hW0]; exact Box.last _ _ _ (by rw [alloc_size, alloc_size])
  have hs0 : W0.heap.size = w.heap.size + 3 := by rw [hW0, alloc_size, alloc_size, alloc_size]
  have R0 := Rx.below (hb0.mono hB)
  have R1 := Ry.below (hb0.mono hB)
  obtain ⟨x0, x1, _, _⟩ := kx.facts
  obtain ⟨y0, y1, _, _⟩ := ky.facts
  have HZ : Hid (∀ acc : List Int, Limbs acc → val acc = val xs + val ys → (s && !(capT acc).isEmpty, capT acc) = capZ (zv s xs + zv t ys)) := fun acc hl hv => by
    have h1 := natV_val hx
    have h2 := natV_val hy
    rw [make_eq (k := natV xs + natV ys) hl (by omega), zv_nat hx, zv_nat hy]
    have : s = t := by simpa using hst
    subst this
    cases s
    · simp
    · simp; congr 1; omega
  generalize capZ (zv s xs + zv t ys) = Z at HZ ⊢
  have HX := hide kx
  have HY := hide ky
  have HR := hide kr
  have HB0 := hide hb0
  have hlx := ((natB_iff xs).1 hx).1.1
  have hly := ((natB_iff ys).1 hy).1.1
  have HC := hide (fun (W : World) (h : Below W0.heap.size W0 W) => spec_Add W B (by have := h.size; omega) A A' n m c c' xs ys R0.1 R1.1 (R0.2.1.below (h.mono (by omega))) (R1.2.1.below (h.mono (by omega))) (by have := R0.2.2.1; omega) (by have := R1.2.2.1; omega) hlx hly)
  have HS0 : Hid (Below W0.heap.size W0 W0.drew) := (Below.refl _ _).drew
  have HKS := hide (fun (W : World) (hq : Below W0.heap.size W0 W) => (⟨(HX.out.below hq HX.out.lt).cell 0, (HX.out.below hq HX.out.lt).cell 1, (HY.out.below hq HY.out.lt).cell 0, (HY.out.below hq HY.out.lt).cell 1⟩ : W.cell? ⟨w.heap.size, 0, none⟩ = some (.bool s) ∧ W.cell? ⟨w.heap.size, 1, none⟩ = some (.slice A n c) ∧ W.cell? ⟨w.heap.size + 1, 0, none⟩ = some (.bool t) ∧ W.cell? ⟨w.heap.size + 1, 1, none⟩ = some (.slice A' m c')))
  have HKR := hide (fun (W : World) (hq : Below W0.heap.size W0 W) => (⟨(HR.out.below hq HR.out.lt).cell 0, (HR.out.below hq HR.out.lt).cell 1, (HR.out.below hq HR.out.lt).frozen 0, (HR.out.below hq HR.out.lt).frozen 1⟩ : W.cell? ⟨w.heap.size + 2, 0, none⟩ = some (.bool false) ∧ W.cell? ⟨w.heap.size + 2, 1, none⟩ = some (.slice none 0 0) ∧ W.frozen? ⟨w.heap.size + 2, 0, none⟩ = false ∧ W.frozen? ⟨w.heap.size + 2, 1, none⟩ = false))
  have HKT := hide (fun (W : World) (hq : Below W0.heap.size W0 W) (x y : Value) => (⟨(((HX.out.below hq HX.out.lt).setv (show w.heap.size ≠ w.heap.size + 2 by omega) 0 x).setv (show w.heap.size ≠ w.heap.size + 2 by omega) 1 y).cell 0, (((HX.out.below hq HX.out.lt).setv (show w.heap.size ≠ w.heap.size + 2 by omega) 0 x).setv (show w.heap.size ≠ w.heap.size + 2 by omega) 1 y).cell 1, (((HY.out.below hq HY.out.lt).setv (show w.heap.size + 1 ≠ w.heap.size + 2 by omega) 0 x).setv (show w.heap.size + 1 ≠ w.heap.size + 2 by omega) 1 y).cell 0, (((HY.out.below hq HY.out.lt).setv (show w.heap.size + 1 ≠ w.heap.size + 2 by omega) 0 x).setv (show w.heap.size + 1 ≠ w.heap.size + 2 by omega) 1 y).cell 1⟩ : ((W.setCell ⟨w.heap.size + 2, 0, none⟩ x).setCell ⟨w.heap.size + 2, 1, none⟩ y).cell? ⟨w.heap.size, 0, none⟩ = some (.bool s) ∧ ((W.setCell ⟨w.heap.size + 2, 0, none⟩ x).setCell ⟨w.heap.size + 2, 1, none⟩ y).cell? ⟨w.heap.size, 1, none⟩ = some (.slice A n c) ∧ ((W.setCell ⟨w.heap.size + 2, 0, none⟩ x).setCell ⟨w.heap.size + 2, 1, none⟩ y).cell? ⟨w.heap.size + 1, 0, none⟩ = some (.bool t) ∧ ((W.setCell ⟨w.heap.size + 2, 0, none⟩ x).setCell ⟨w.heap.size + 2, 1, none⟩ y).cell? ⟨w.heap.size + 1, 1, none⟩ = some (.slice A' m c')))
  clear kx ky kr hb0 R0 R1 Rx Ry hx hy hlx hly
  go_enter Tryz.func162, Tryz.ntmps162
  go_wp2_with fail
  rw [← hW0]
  clear hW0
  go_wp2_with fail
  go_region_held3 (fun w' => w'.cell? ⟨w.heap.size, 0, none⟩ = some (.bool s) ∧ w'.cell? ⟨w.heap.size, 1, none⟩ = some (.slice A n c) ∧ w'.cell? ⟨w.heap.size + 1, 0, none⟩ = some (.bool t) ∧ w'.cell? ⟨w.heap.size + 1, 1, none⟩ = some (.slice A' m c'))
      (first | (with_reducible exact HKT.out _ HS2.out _ _) | (with_reducible exact HKS.out _ HS2.out) | (with_reducible exact HKS.out _ HS1.out) | (with_reducible exact HKS.out _ HS0.out))
      (first
        | (go_at_call 199; refine (HC.out _ HS0.out).mono ?_; rintro e w4 ⟨v1, acc, rfl, q1, hlim, hval, hlen, hb1⟩; have HL := hide hlim; have HV := hide hval; clear hlim hval; obtain ⟨A1, c1, rfl, _, _, _⟩ := own_reads q1; have HRD := hide (own_rd q1); have HC1 := hide (own_nilcap q1).2.1; have HCM := hide (own_nilcap q1).2.2; have HS1 := hide (below_then HS0.out hb1))
        | (go_at_call 164; refine (spec_Make _ _ (Nat.le_refl _) s _ _ _ _ rfl HRD.out HC1.out HCM.out).mono ?_; rintro e w5 ⟨v5, rfl, o5, hb2⟩; obtain ⟨A5, c5, rfl⟩ := o5.form; have HS2 := hide (below_then HS1.out hb2); obtain ⟨t0, t1, z0, z1⟩ := HKR.out _ HS2.out))
  have HO := hide (ret_big (x := .bool (s && !(capT acc).isEmpty)) (HR.out.below HS2.out HR.out.lt) o5 (below_then HB0.out HS2.out) (show w.heap.size ≤ w.heap.size + 2 by omega) (show w.heap.size + 2 < _ by have := HS1.out.size; omega) (Nat.le_refl _))
  have hz := HZ.out acc HL.out HV.out
  subst hz
  clear o5 hb1 hb2 t0 t1 z0 z1 q1
  go_wp2_with fail
  refine bodyPost_ret (results_cell_row rfl _ _ (w.heap.size + 2) _ #[.bool (s && !(capT acc).isEmpty), .slice A5 (capT acc).length c5] (0, 0) _ rfl HO.out.1 Tryz.underlying45 rfl Tryz.sizeBig) rfl ?_
  exact ⟨_, rfl, HO.out.2.1, HO.out.2.2⟩
set_option maxHeartbeats 3200000 in
theorem spec_l03Add_ge (w : World) (B : Nat) (hB : B ≤ w.heap.size) (s : Bool) (A : Option Addr) (n c : Nat) (xs : List Int) (Rx : RdI w B A n xs) (hx : natB xs = true) (t : Bool) (A' : Option Addr) (m c' : Nat) (ys : List Int) (Ry : RdI w B A' m ys) (hy : natB ys = true) (hst : (s == t) = false) (hst' : s = !t) (hc : val ys ≤ val xs) :
    Calls Tryz.prog 162 #[.agg #[.bool s, .slice A n c], .agg #[.bool t, .slice A' m c']] w fun e w' => ∃ v, e = .returned (.agg #[.bool (capZ (zv s xs + zv t ys)).1, v]) ∧ Own w' w.heap.size w'.heap.size 3 v (capZ (zv s xs + zv t ys)).2.length (iv (capZ (zv s xs + zv t ys)).2) ∧ Below w.heap.size w w' := by
  obtain ⟨W0, hW0⟩ : ∃ W0, W0 = ((w.alloc (.cells #[.bool s, .slice A n c] 45)).alloc (.cells #[.bool t, .slice A' m c'] 45)).alloc (.cells #[.bool false, .slice none 0 0] 45) := ⟨_, rfl⟩
  have hb0 : Below w.heap.size w W0 := by rw [hW0]; exact below_alloc (below_alloc (below_new _ _) _) _
  have kx : Box W0 w.heap.size 45 #[.bool s, .slice A n c] := by rw [hW0]; exact ((Box.last _ _ _ rfl).alloc _).alloc _
  have ky : Box W0 (w.heap.size + 1) 45 #[.bool t, .slice A' m c'] := by rw [hW0]; exact (Box.last _ _ _ (alloc_size _ _).symm).alloc _
  have kr : Box W0 (w.heap.size + 2) 45 #[.bool false, .slice none 0 0] := by rw [hW0]; exact Box.last _ _ _ (by rw [alloc_size, alloc_size])
  have hs0 : W0.heap.size = w.heap.size + 3 := by rw [hW0, alloc_size, alloc_size, alloc_size]
  have R0 := Rx.below (hb0.mono hB)
  have R1 := Ry.below (hb0.mono hB)
  obtain ⟨x0, x1, _, _⟩ := kx.facts
  obtain ⟨y0, y1, _, _⟩ := ky.facts
  have HZ : (s && !(capT (limbs (val xs - val ys).toNat)).isEmpty, capT (limbs (val xs - val ys).toNat)) = capZ (zv s xs + zv t ys) := by
    have h1 := natV_val hx
    have h2 := natV_val hy
    rw [make_limbs, zv_nat hx, zv_nat hy]
    subst hst'
    cases t
    · simp; congr 1; omega
    · simp; congr 1; omega
  obtain ⟨cv, hcv, hcl⟩ : ∃ cv : Int, cv = cmpV (val xs) (val ys) ∧ 0 ≤ cv := ⟨_, rfl, by
    unfold cmpV; rw [if_neg (by omega)]; split <;> omega⟩
  have hcx := ((natB_iff xs).1 hx).1
  have hcy := ((natB_iff ys).1 hy).1
  have HCM := hide (spec_Cmp W0 B A A' n m c c' xs ys R0.1 R1.1 R0.2.1 R1.2.1 (by have := R0.2.2.1; omega) (by have := R1.2.2.1; omega) hcx hcy)
  rw [← hcv] at HCM
  clear hcv
  have HX0 := hide kx
  have HY0 := hide ky
  have HR0 := hide kr
  have HB0 := hide hb0
  have HQ0 := hide R0
  have HQ1 := hide R1
  generalize capZ (zv s xs + zv t ys) = Z at HZ ⊢
  have HZ2 := hide HZ
  clear HZ kx ky kr hb0 R0 R1 Rx Ry hx hy hst'
  go_enter Tryz.func162, Tryz.ntmps162
  go_wp2_with fail
  rw [← hW0]
  clear hW0
  go_wp2_with fail
  refine HCM.out.mono ?_
  rintro e w1 ⟨rfl, hd⟩
  have hb1 : Below W0.heap.size W0 w1 := by obtain ⟨d, rfl⟩ := hd; exact below_drewNR (Below.refl _ _) d
  clear hd HCM x0 x1 y0 y1
  have HX := hide (HX0.out.below hb1 HX0.out.lt)
  have HY := hide (HY0.out.below hb1 HY0.out.lt)
  have HR := hide (HR0.out.below hb1 HR0.out.lt)
  have hs1 := hb1.size
  have HB1 := hide (below_then HB0.out hb1)
  have R0 := HQ0.out.below (hb1.mono (by omega))
  have R1 := HQ1.out.below (hb1.mono (by omega))
  obtain ⟨x0, x1, _, _⟩ := HX.out.facts
  obtain ⟨y0, y1, _, _⟩ := HY.out.facts
  have HC := hide (fun (W : World) (h : Below w1.heap.size w1 W) => spec_Sub W B (by have := h.size; omega) A A' n m c c' xs ys R0.1 R1.1 (R0.2.1.below (h.mono (by omega))) (R1.2.1.below (h.mono (by omega))) (by have := R0.2.2.1; omega) hcx hcy (by omega))
  have HS0 : Hid (Below w1.heap.size w1 w1.drew) := (Below.refl _ _).drew
  have HKS := hide (fun (W : World) (hq : Below w1.heap.size w1 W) => (⟨(HX.out.below hq HX.out.lt).cell 0, (HX.out.below hq HX.out.lt).cell 1, (HY.out.below hq HY.out.lt).cell 0, (HY.out.below hq HY.out.lt).cell 1⟩ : W.cell? ⟨w.heap.size, 0, none⟩ = some (.bool s) ∧ W.cell? ⟨w.heap.size, 1, none⟩ = some (.slice A n c) ∧ W.cell? ⟨w.heap.size + 1, 0, none⟩ = some (.bool t) ∧ W.cell? ⟨w.heap.size + 1, 1, none⟩ = some (.slice A' m c')))
  have HKR := hide (fun (W : World) (hq : Below w1.heap.size w1 W) => (⟨(HR.out.below hq HR.out.lt).cell 0, (HR.out.below hq HR.out.lt).cell 1, (HR.out.below hq HR.out.lt).frozen 0, (HR.out.below hq HR.out.lt).frozen 1⟩ : W.cell? ⟨w.heap.size + 2, 0, none⟩ = some (.bool false) ∧ W.cell? ⟨w.heap.size + 2, 1, none⟩ = some (.slice none 0 0) ∧ W.frozen? ⟨w.heap.size + 2, 0, none⟩ = false ∧ W.frozen? ⟨w.heap.size + 2, 1, none⟩ = false))
  have HKT := hide (fun (W : World) (hq : Below w1.heap.size w1 W) (x y : Value) => (⟨(((HX.out.below hq HX.out.lt).setv (show w.heap.size ≠ w.heap.size + 2 by omega) 0 x).setv (show w.heap.size ≠ w.heap.size + 2 by omega) 1 y).cell 0, (((HX.out.below hq HX.out.lt).setv (show w.heap.size ≠ w.heap.size + 2 by omega) 0 x).setv (show w.heap.size ≠ w.heap.size + 2 by omega) 1 y).cell 1, (((HY.out.below hq HY.out.lt).setv (show w.heap.size + 1 ≠ w.heap.size + 2 by omega) 0 x).setv (show w.heap.size + 1 ≠ w.heap.size + 2 by omega) 1 y).cell 0, (((HY.out.below hq HY.out.lt).setv (show w.heap.size + 1 ≠ w.heap.size + 2 by omega) 0 x).setv (show w.heap.size + 1 ≠ w.heap.size + 2 by omega) 1 y).cell 1⟩ : ((W.setCell ⟨w.heap.size + 2, 0, none⟩ x).setCell ⟨w.heap.size + 2, 1, none⟩ y).cell? ⟨w.heap.size, 0, none⟩ = some (.bool s) ∧ ((W.setCell ⟨w.heap.size + 2, 0, none⟩ x).setCell ⟨w.heap.size + 2, 1, none⟩ y).cell? ⟨w.heap.size, 1, none⟩ = some (.slice A n c) ∧ ((W.setCell ⟨w.heap.size + 2, 0, none⟩ x).setCell ⟨w.heap.size + 2, 1, none⟩ y).cell? ⟨w.heap.size + 1, 0, none⟩ = some (.bool t) ∧ ((W.setCell ⟨w.heap.size + 2, 0, none⟩ x).setCell ⟨w.heap.size + 2, 1, none⟩ y).cell? ⟨w.heap.size + 1, 1, none⟩ = some (.slice A' m c')))
  clear hb1 R0 R1 hcx hcy hc HX0 HY0 HR0 HB0 HQ0 HQ1
  go_wp2_with fail
  go_region_held3 (fun w' => w'.cell? ⟨w.heap.size, 0, none⟩ = some (.bool s) ∧ w'.cell? ⟨w.heap.size, 1, none⟩ = some (.slice A n c) ∧ w'.cell? ⟨w.heap.size + 1, 0, none⟩ = some (.bool t) ∧ w'.cell? ⟨w.heap.size + 1, 1, none⟩ = some (.slice A' m c'))
      (first | (with_reducible exact HKT.out _ HS2.out _ _) | (with_reducible exact HKS.out _ HS2.out) | (with_reducible exact HKS.out _ HS1.out) | (with_reducible exact HKS.out _ HS0.out))
      (first
        | (go_at_call 201; refine (HC.out _ HS0.out).mono ?_; rintro e w4 ⟨v1, rfl, q1, hb1⟩; obtain ⟨A1, c1, rfl, _, _, _⟩ := own_reads q1; have HRD := hide (own_rd q1); have HC1 := hide (own_nilcap q1).2.1; have HCM := hide (own_nilcap q1).2.2; have HS1 := hide (below_then HS0.out hb1))
        | (go_at_call 164; refine (spec_Make _ _ (Nat.le_refl _) s _ _ _ _ rfl HRD.out HC1.out HCM.out).mono ?_; rintro e w5 ⟨v5, rfl, o5, hb2⟩; obtain ⟨A5, c5, rfl⟩ := o5.form; have HS2 := hide (below_then HS1.out hb2); obtain ⟨t0, t1, z0, z1⟩ := HKR.out _ HS2.out))
  have HO := hide (ret_big (x := .bool (s && !(capT (limbs (val xs - val ys).toNat)).isEmpty)) (HR.out.below HS2.out HR.out.lt) o5 (below_then HB1.out HS2.out) (show w.heap.size ≤ w.heap.size + 2 by omega) (show w.heap.size + 2 < _ by have := HS1.out.size; omega) (Nat.le_refl _))
  have hz := HZ2.out
  subst hz
  clear o5 hb1 hb2 t0 t1 z0 z1 q1
  go_wp2_with fail
  refine bodyPost_ret (results_cell_row rfl _ _ (w.heap.size + 2) _ #[.bool (s && !(capT (limbs (val xs - val ys).toNat)).isEmpty), .slice A5 (capT (limbs (val xs - val ys).toNat)).length c5] (0, 0) _ rfl HO.out.1 Tryz.underlying45 rfl Tryz.sizeBig) rfl ?_
  exact ⟨_, rfl, HO.out.2.1, HO.out.2.2⟩
set_option maxHeartbeats 3200000 in
theorem spec_l03Add_lt (w : World) (B : Nat) (hB : B ≤ w.heap.size) (s : Bool) (A : Option Addr) (n c : Nat) (xs : List Int) (Rx : RdI w B A n xs) (hx : natB xs = true) (t : Bool) (A' : Option Addr) (m c' : Nat) (ys : List Int) (Ry : RdI w B A' m ys) (hy : natB ys = true) (hst : (s == t) = false) (hst' : s = !t) (hc : val xs < val ys) :
    Calls Tryz.prog 162 #[.agg #[.bool s, .slice A n c], .agg #[.bool t, .slice A' m c']] w fun e w' => ∃ v, e = .returned (.agg #[.bool (capZ (zv s xs + zv t ys)).1, v]) ∧ Own w' w.heap.size w'.heap.size 3 v (capZ (zv s xs + zv t ys)).2.length (iv (capZ (zv s xs + zv t ys)).2) ∧ Below w.heap.size w w' := by
  obtain ⟨W0, hW0⟩ : ∃ W0, W0 = ((w.alloc (.cells #[.bool s, .slice A n c] 45)).alloc (.cells #[.bool t, .slice A' m c'] 45)).alloc (.cells #[.bool false, .slice none 0 0] 45) := ⟨_, rfl⟩
  have hb0 : Below w.heap.size w W0 := by rw [hW0]; exact below_alloc (below_alloc (below_new _ _) _) _
  have kx : Box W0 w.heap.size 45 #[.bool s, .slice A n c] := by rw [hW0]; exact ((Box.last _ _ _ rfl).alloc _).alloc _
  have ky : Box W0 (w.heap.size + 1) 45 #[.bool t, .slice A' m c'] := by rw [hW0]; exact (Box.last _ _ _ (alloc_size _ _).symm).alloc _
  have kr : Box W0 (w.heap.size + 2) 45 #[.bool false, .slice none 0 0] := by rw [hW0]; exact Box.last _ _ _ (by rw [alloc_size, alloc_size])
  have hs0 : W0.heap.size = w.heap.size + 3 := by rw [hW0, alloc_size, alloc_size, alloc_size]
  have R0 := Rx.below (hb0.mono hB)
  have R1 := Ry.below (hb0.mono hB)
  obtain ⟨x0, x1, _, _⟩ := kx.facts
  obtain ⟨y0, y1, _, _⟩ := ky.facts
  have HZ : (t && !(capT (limbs (val ys - val xs).toNat)).isEmpty, capT (limbs (val ys - val xs).toNat)) = capZ (zv s xs + zv t ys) := by
    have h1 := natV_val hx
    have h2 := natV_val hy
    rw [make_limbs, zv_nat hx, zv_nat hy]
    subst hst'
    cases t
    · simp; congr 1; omega
    · simp; congr 1; omega
  obtain ⟨cv, hcv, hcl⟩ : ∃ cv : Int, cv = cmpV (val xs) (val ys) ∧ ¬ 0 ≤ cv := ⟨_, rfl, by
    unfold cmpV; rw [if_pos hc]; omega⟩
  have hcx := ((natB_iff xs).1 hx).1
  have hcy := ((natB_iff ys).1 hy).1
  have HCM := hide (spec_Cmp W0 B A A' n m c c' xs ys R0.1 R1.1 R0.2.1 R1.2.1 (by have := R0.2.2.1; omega) (by have := R1.2.2.1; omega) hcx hcy)
  rw [← hcv] at HCM
  clear hcv
  have HX0 := hide kx
  have HY0 := hide ky
  have HR0 := hide kr
  have HB0 := hide hb0
  have HQ0 := hide R0
  have HQ1 := hide R1
  generalize capZ (zv s xs + zv t ys) = Z at HZ ⊢
  have HZ2 := hide HZ
  clear HZ kx ky kr hb0 R0 R1 Rx Ry hx hy hst'
  go_enter Tryz.func162, Tryz.ntmps162
  go_wp2_with fail
  rw [← hW0]
  clear hW0
  go_wp2_with fail
  refine HCM.out.mono ?_
  rintro e w1 ⟨rfl, hd⟩
  have hb1 : Below W0.heap.size W0 w1 := by obtain ⟨d, rfl⟩ := hd; exact below_drewNR (Below.refl _ _) d
  clear hd HCM x0 x1 y0 y1
  have HX := hide (HX0.out.below hb1 HX0.out.lt)
  have HY := hide (HY0.out.below hb1 HY0.out.lt)
  have HR := hide (HR0.out.below hb1 HR0.out.lt)
  have hs1 := hb1.size
  have HB1 := hide (below_then HB0.out hb1)
  have R0 := HQ0.out.below (hb1.mono (by omega))
  have R1 := HQ1.out.below (hb1.mono (by omega))
  obtain ⟨x0, x1, _, _⟩ := HX.out.facts
  obtain ⟨y0, y1, _, _⟩ := HY.out.facts
  have HC := hide (fun (W : World) (h : Below w1.heap.size w1 W) => spec_Sub W B (by have := h.size; omega) A' A m n c' c ys xs R1.1 R0.1 (R1.2.1.below (h.mono (by omega))) (R0.2.1.below (h.mono (by omega))) (by have := R1.2.2.1; omega) hcy hcx (by omega))
  have HS0 : Hid (Below w1.heap.size w1 w1.drew) := (Below.refl _ _).drew
  have HKS := hide (fun (W : World) (hq : Below w1.heap.size w1 W) => (⟨(HX.out.below hq HX.out.lt).cell 0, (HX.out.below hq HX.out.lt).cell 1, (HY.out.below hq HY.out.lt).cell 0, (HY.out.below hq HY.out.lt).cell 1⟩ : W.cell? ⟨w.heap.size, 0, none⟩ = some (.bool s) ∧ W.cell? ⟨w.heap.size, 1, none⟩ = some (.slice A n c) ∧ W.cell? ⟨w.heap.size + 1, 0, none⟩ = some (.bool t) ∧ W.cell? ⟨w.heap.size + 1, 1, none⟩ = some (.slice A' m c')))
  have HKR := hide (fun (W : World) (hq : Below w1.heap.size w1 W) => (⟨(HR.out.below hq HR.out.lt).cell 0, (HR.out.below hq HR.out.lt).cell 1, (HR.out.below hq HR.out.lt).frozen 0, (HR.out.below hq HR.out.lt).frozen 1⟩ : W.cell? ⟨w.heap.size + 2, 0, none⟩ = some (.bool false) ∧ W.cell? ⟨w.heap.size + 2, 1, none⟩ = some (.slice none 0 0) ∧ W.frozen? ⟨w.heap.size + 2, 0, none⟩ = false ∧ W.frozen? ⟨w.heap.size + 2, 1, none⟩ = false))
  have HKT := hide (fun (W : World) (hq : Below w1.heap.size w1 W) (x y : Value) => (⟨(((HX.out.below hq HX.out.lt).setv (show w.heap.size ≠ w.heap.size + 2 by omega) 0 x).setv (show w.heap.size ≠ w.heap.size + 2 by omega) 1 y).cell 0, (((HX.out.below hq HX.out.lt).setv (show w.heap.size ≠ w.heap.size + 2 by omega) 0 x).setv (show w.heap.size ≠ w.heap.size + 2 by omega) 1 y).cell 1, (((HY.out.below hq HY.out.lt).setv (show w.heap.size + 1 ≠ w.heap.size + 2 by omega) 0 x).setv (show w.heap.size + 1 ≠ w.heap.size + 2 by omega) 1 y).cell 0, (((HY.out.below hq HY.out.lt).setv (show w.heap.size + 1 ≠ w.heap.size + 2 by omega) 0 x).setv (show w.heap.size + 1 ≠ w.heap.size + 2 by omega) 1 y).cell 1⟩ : ((W.setCell ⟨w.heap.size + 2, 0, none⟩ x).setCell ⟨w.heap.size + 2, 1, none⟩ y).cell? ⟨w.heap.size, 0, none⟩ = some (.bool s) ∧ ((W.setCell ⟨w.heap.size + 2, 0, none⟩ x).setCell ⟨w.heap.size + 2, 1, none⟩ y).cell? ⟨w.heap.size, 1, none⟩ = some (.slice A n c) ∧ ((W.setCell ⟨w.heap.size + 2, 0, none⟩ x).setCell ⟨w.heap.size + 2, 1, none⟩ y).cell? ⟨w.heap.size + 1, 0, none⟩ = some (.bool t) ∧ ((W.setCell ⟨w.heap.size + 2, 0, none⟩ x).setCell ⟨w.heap.size + 2, 1, none⟩ y).cell? ⟨w.heap.size + 1, 1, none⟩ = some (.slice A' m c')))
  clear hb1 R0 R1 hcx hcy hc HX0 HY0 HR0 HB0 HQ0 HQ1
  go_wp2_with fail
  go_region_held3 (fun w' => w'.cell? ⟨w.heap.size, 0, none⟩ = some (.bool s) ∧ w'.cell? ⟨w.heap.size, 1, none⟩ = some (.slice A n c) ∧ w'.cell? ⟨w.heap.size + 1, 0, none⟩ = some (.bool t) ∧ w'.cell? ⟨w.heap.size + 1, 1, none⟩ = some (.slice A' m c'))
      (first | (with_reducible exact HKT.out _ HS2.out _ _) | (with_reducible exact HKS.out _ HS2.out) | (with_reducible exact HKS.out _ HS1.out) | (with_reducible exact HKS.out _ HS0.out))
      (first
        | (go_at_call 201; refine (HC.out _ HS0.out).mono ?_; rintro e w4 ⟨v1, rfl, q1, hb1⟩; obtain ⟨A1, c1, rfl, _, _, _⟩ := own_reads q1; have HRD := hide (own_rd q1); have HC1 := hide (own_nilcap q1).2.1; have HCM := hide (own_nilcap q1).2.2; have HS1 := hide (below_then HS0.out hb1))
        | (go_at_call 164; refine (spec_Make _ _ (Nat.le_refl _) t _ _ _ _ rfl HRD.out HC1.out HCM.out).mono ?_; rintro e w5 ⟨v5, rfl, o5, hb2⟩; obtain ⟨A5, c5, rfl⟩ := o5.form; have HS2 := hide (below_then HS1.out hb2); obtain ⟨t0, t1, z0, z1⟩ := HKR.out _ HS2.out))
  have HO := hide (ret_big (x := .bool (t && !(capT (limbs (val ys - val xs).toNat)).isEmpty)) (HR.out.below HS2.out HR.out.lt) o5 (below_then HB1.out HS2.out) (show w.heap.size ≤ w.heap.size + 2 by omega) (show w.heap.size + 2 < _ by have := HS1.out.size; omega) (Nat.le_refl _))
  have hz := HZ2.out
  subst hz
  clear o5 hb1 hb2 t0 t1 z0 z1 q1
  go_wp2_with fail
  refine bodyPost_ret (results_cell_row rfl _ _ (w.heap.size + 2) _ #[.bool (t && !(capT (limbs (val ys - val xs).toNat)).isEmpty), .slice A5 (capT (limbs (val ys - val xs).toNat)).length c5] (0, 0) _ rfl HO.out.1 Tryz.underlying45 rfl Tryz.sizeBig) rfl ?_
  exact ⟨_, rfl, HO.out.2.1, HO.out.2.2⟩
theorem spec_l03Add (w : World) (B : Nat) (hB : B ≤ w.heap.size) (s : Bool) (A : Option Addr) (n c : Nat) (xs : List Int) (Rx : RdI w B A n xs) (hx : natB xs = true) (t : Bool) (A' : Option Addr) (m c' : Nat) (ys : List Int) (Ry : RdI w B A' m ys) (hy : natB ys = true) :
    Calls Tryz.prog 162 #[.agg #[.bool s, .slice A n c], .agg #[.bool t, .slice A' m c']] w fun e w' => ∃ v, e = .returned (.agg #[.bool (capZ (zv s xs + zv t ys)).1, v]) ∧ Own w' w.heap.size w'.heap.size 3 v (capZ (zv s xs + zv t ys)).2.length (iv (capZ (zv s xs + zv t ys)).2) ∧ Below w.heap.size w w' := by
  by_cases h : s = t
  · exact spec_l03Add_same w B hB s A n c xs Rx hx t A' m c' ys Ry hy (by simpa using h)
  · have h1 : (s == t) = false := by simpa using h
    by_cases hc : val xs < val ys
    · exact spec_l03Add_lt w B hB s A n c xs Rx hx t A' m c' ys Ry hy h1 (by cases s <;> cases t <;> simp_all) hc
    · exact spec_l03Add_ge w B hB s A n c xs Rx hx t A' m c' ys Ry hy h1 (by cases s <;> cases t <;> simp_all) (by omega)
end Go.Proofs.YtocllmaikngoaaaGreatDoor
