/-
  The texts BigR, BigR2, put together; each has its own heading below. No condition of ours.
-/
import Derived.Test.YtnbaookdeijhhaaGreatDoorRA
import Derived.Test.YtnbaookdeijhhaaGreatDoorNatLen
import Derived.Test.YtnbaookdeijhhaaGreatDoorPB
/-
  The reference's big integers: contracts (1): Ok, l03Make.
-/




namespace Go.Proofs.YtnbaookdeijhhaaGreatDoor
open Go.RowKit
set_option linter.unusedVariables false

theorem notEmpty_len {xs : List Int} {n : Nat} (h : xs.length = n) : (!xs.isEmpty) = decide (0 < (n : Int)) := by
  subst h; cases xs with
  | nil => rfl
  | cons a l => simp
theorem Rd.take {w : World} {B : Nat} {A : Option Addr} {xs : List Value} (h : Rd w B A xs) (m : Nat) : Rd w B A (xs.take m) := by
  rcases h with e | ⟨ad, hA, hb, hc⟩
  · subst e; exact .inl (by simp)
  · refine .inr ⟨ad, hA, hb, fun k u hu => hc k u ?_⟩
    rw [List.getElem?_take] at hu
    split at hu
    · exact hu
    · cases hu
set_option maxHeartbeats 800000 in
theorem spec_BigIntOk (w : World) (B : Nat) (hB : B ≤ w.heap.size) (s : Bool) (A : Option Addr) (n c : Nat) (xs : List Int) (R : RdI w B A n xs) :
    Calls Tryz.prog 158 #[.agg #[.bool s, .slice A n c]] w fun e w' => e = .returned (.bool (bigB s xs)) ∧ Below w.heap.size w w' := by
  have hb0 := below_new w (.cells #[.bool s, .slice A n c] 25)
  have hs0 := hb0.size
  have R1 := R.below (hb0.mono hB)
  have HC := hide (spec_NatOk _ B (by omega) A n c xs R1)
  have hxl := R.1
  clear R1
  by_cases hn : natB xs = true
  · rw [hn] at HC
    cases s
    · have hv : bigB false xs = true := by rw [bigB, hn]; rfl
      rw [hv]
      go_enter Tryz.func158, Tryz.ntmps158
      go_wp2_with fail
      refine HC.out.mono ?_
      rintro e w1 ⟨rfl, rfl⟩
      go_wp2_with fail
      go_ret
      exact ⟨rfl, hb0⟩
    · have hv : bigB true xs = decide (0 < (n : Int)) := by rw [bigB, hn, ← notEmpty_len hxl]; rfl
      rw [hv]
      clear hv
      go_enter Tryz.func158, Tryz.ntmps158
      go_wp2_with fail
      refine HC.out.mono ?_
      rintro e w1 ⟨rfl, rfl⟩
      by_cases h0 : 0 < (n : Int)
      · go_wp2_with fail
        go_ret
        exact ⟨by simp, hb0⟩
      · go_wp2_with fail
        go_ret
        exact ⟨by simp, hb0⟩
  · have hn : natB xs = false := by simpa using hn
    rw [hn] at HC
    rw [bigB_bad hn]
    go_enter Tryz.func158, Tryz.ntmps158
    go_wp2_with fail
    refine HC.out.mono ?_
    rintro e w1 ⟨rfl, rfl⟩
    go_wp2_with fail
    go_ret
    exact ⟨rfl, hb0⟩
set_option maxHeartbeats 800000 in
theorem spec_CapR (w : World) (B : Nat) (A : Option Addr) (n c : Nat) (xs : List Int) (hn : xs.length = n) (hx : Rd w B A (iv xs)) (hc : n ≤ c) (hcm : c ≤ maxLen) :
    Calls Tryz.prog 198 #[.slice A n c] w fun e w' => ∃ A1 c1, e = .returned (.slice A1 (capT xs).length c1) ∧ Rd w B A1 (iv (capT xs)) ∧ w = w' := by
  have hcm' := hcm
  unfold maxLen at hcm'
  go_enter Tryz.func198, Tryz.ntmps198
  go_wp2_with fail
  refine (spec_Trim w B A n c xs hn hx hc hcm).mono ?_
  rintro e w' ⟨m, rfl, hm, hT, rfl⟩
  have hml : (trim xs).length = m := by rw [hT, List.length_take]; omega
  by_cases h60 : m ≤ 60
  · have HC : Hid (capT xs = trim xs) := by show _ = _; rw [capT, if_pos (by omega)]
    have HM := hide hml
    have HT := hide hT
    have HX := hide hx
    clear hml hT hx hcm
    go_wp2_with fail
    go_ret
    refine ⟨A, c, by rw [HC.out, HM.out]; rfl, ?_, rfl⟩
    rw [HC.out, HT.out, show iv (xs.take m) = (iv xs).take m by simp [iv, List.map_take]]
    exact HX.out.take m
  · have HC : Hid (capT xs = []) := by show _ = _; rw [capT, if_neg (by omega)]
    have h60' : 60 < m := by omega
    clear hml hT h60 hx hcm
    go_wp2_with fail
    go_ret
    exact ⟨none, 0, by rw [HC.out]; rfl, by rw [HC.out]; exact .inl rfl, rfl⟩
theorem own_zero (w : World) (E : TypeId) : (w.alloc (.cells #[] E)).ownsRow w.heap.size E 1 (.slice (some ⟨w.heap.size, 0, none⟩) 0 0) 0 [] :=
  ⟨rfl, .inr ⟨w.heap.size, 0, #[], rfl, Nat.le_refl _, heap_last rfl, Nat.le_refl _, by unfold maxLen; omega, rfl, rfl⟩⟩
theorem capT_len (xs : List Int) : (capT xs).length ≤ 60 := by unfold capT; split <;> simp_all
theorem make_end {w W W' : World} {E F : TypeId} {a b v : Value} {L : List Int} (x : Bool) (k : Box W' w.heap.size E #[a, b]) (o : W'.ownsRow (w.heap.size + 1) F 1 v L.length (iv L)) (hb : Below w.heap.size w W) (hb2 : Below (w.heap.size + 1) W W') :
    Box ((W'.setCell ⟨w.heap.size, 0, none⟩ (.bool x)).setCell ⟨w.heap.size, 1, none⟩ v) w.heap.size E #[.bool x, v] ∧ Own ((W'.setCell ⟨w.heap.size, 0, none⟩ (.bool x)).setCell ⟨w.heap.size, 1, none⟩ v) w.heap.size ((W'.setCell ⟨w.heap.size, 0, none⟩ (.bool x)).setCell ⟨w.heap.size, 1, none⟩ v).heap.size F v L.length (iv L) ∧ Below w.heap.size w ((W'.setCell ⟨w.heap.size, 0, none⟩ (.bool x)).setCell ⟨w.heap.size, 1, none⟩ v) := by
  have o2 := Own.of_row o (Nat.le_refl _)
  exact ret_big k o2 (hb.trans (hb2.mono (Nat.le_succ _))) (Nat.le_refl _) (Nat.lt_succ_self _) (Nat.le_refl _)
set_option maxHeartbeats 1600000 in
theorem spec_Make (w : World) (B : Nat) (hB : B ≤ w.heap.size) (s : Bool) (A : Option Addr) (n c : Nat) (xs : List Int) (hn : xs.length = n) (hx : Rd w B A (iv xs)) (hc : n ≤ c) (hcm : c ≤ maxLen) :
    Calls Tryz.prog 166 #[.bool s, .slice A n c] w fun e w' => ∃ v, e = .returned (.agg #[.bool (s && !(capT xs).isEmpty), v]) ∧ Own w' w.heap.size w'.heap.size 3 v (capT xs).length (iv (capT xs)) ∧ Below w.heap.size w w' := by
  have hb0 := below_new w (.cells #[.bool false, .slice none 0 0] 25)
  have k0 := Box.last w 25 #[.bool false, .slice none 0 0] rfl
  have hs0 := alloc_size w (.cells #[.bool false, .slice none 0 0] 25)
  have HC := hide (spec_CapR (w.alloc (.cells #[.bool false, .slice none 0 0] 25)) B A n c xs hn (hx.below (hb0.mono hB)) hc hcm)
  have hl60 := capT_len xs
  clear hx hcm hc hn
  generalize capT xs = L at *
  obtain ⟨b, hbe⟩ : ∃ b, b = (s && !L.isEmpty) := ⟨_, rfl⟩
  rw [← hbe]
  rw [notEmpty_len (xs := L) rfl] at hbe
  cases s
  · obtain rfl : b = false := hbe
    go_enter Tryz.func166, Tryz.ntmps166
    go_wp2_with fail
    refine HC.out.mono ?_
    rintro e w1 ⟨A1, c1, rfl, hr, rfl⟩
    have hE := own_zero (w.alloc (.cells #[.bool false, .slice none 0 0] 25)) 3
    rw [hs0] at hE
    have HE := hide hE
    have HRD := hide (hr.wider (show B ≤ (w.alloc (.cells #[.bool false, .slice none 0 0] 25)).heap.size by omega) |>.alloc (Nat.le_refl _) (.cells #[] 3))
    have HK := hide (k0.alloc (.cells #[] 3))
    have HB := hide (below_alloc hb0 (.cells #[] 3))
    have hsz := alloc_size (w.alloc (.cells #[.bool false, .slice none 0 0] 25)) (.cells #[] 3)
    rw [hs0] at hsz
    have hie := hide (isEmpty_len (xs := L) rfl)
    have HS0 := hide hs0
    clear hE hr HC k0 hb0 hs0
    go_wp2_with (at_builtin; refine wpList_append_rd Tryz.sliceInt rfl rfl _ _ rfl ((w.alloc (.cells #[.bool false, .slice none 0 0] 25)).alloc (.cells #[] 3)) (w.heap.size + 1) _ 0 [] HE.out rfl _ A1 L.length c1 (iv L) rfl (iv_len _) HRD.out (iv_one _) (by unfold maxLen; omega) (by omega) (by omega) ?_; intro v' w2 hown2 hb2; rw [Nat.zero_add, List.nil_append] at hown2; obtain ⟨A2, c2, rfl, _, _, _⟩ := own_reads hown2; have k2 := HK.out.below hb2 (Nat.lt_succ_self _); obtain ⟨t0, t1, z0, z1⟩ := k2.facts)
    have HO := hide (make_end false k2 hown2 HB.out hb2)
    clear hown2 hb2 k2 t0 t1 z0 z1
    refine bodyPost_ret (results_cell_row rfl _ _ w.heap.size _ #[.bool false, .slice A2 L.length c2] (0, 0) _ rfl HO.out.1 Tryz.underlying25 rfl Tryz.sizeBig) rfl ?_
    exact ⟨_, rfl, HO.out.2.1, HO.out.2.2⟩
  · obtain rfl : b = decide (0 < L.length) := by rw [hbe]; simp
    clear hbe
    go_enter Tryz.func166, Tryz.ntmps166
    go_wp2_with fail
    refine HC.out.mono ?_
    rintro e w1 ⟨A1, c1, rfl, hr, rfl⟩
    have hE := own_zero (w.alloc (.cells #[.bool false, .slice none 0 0] 25)) 3
    rw [hs0] at hE
    have HE := hide hE
    have HRD := hide (hr.wider (show B ≤ (w.alloc (.cells #[.bool false, .slice none 0 0] 25)).heap.size by omega) |>.alloc (Nat.le_refl _) (.cells #[] 3))
    have HK := hide (k0.alloc (.cells #[] 3))
    have HB := hide (below_alloc hb0 (.cells #[] 3))
    have hsz := alloc_size (w.alloc (.cells #[.bool false, .slice none 0 0] 25)) (.cells #[] 3)
    rw [hs0] at hsz
    have hie := hide (isEmpty_len (xs := L) rfl)
    have HS0 := hide hs0
    clear hE hr HC k0 hb0 hs0
    go_wp2_with (at_builtin; refine wpList_append_rd Tryz.sliceInt rfl rfl _ _ rfl ((w.alloc (.cells #[.bool false, .slice none 0 0] 25)).alloc (.cells #[] 3)) (w.heap.size + 1) _ 0 [] HE.out rfl _ A1 L.length c1 (iv L) rfl (iv_len _) HRD.out (iv_one _) (by unfold maxLen; omega) (by omega) (by omega) ?_; intro v' w2 hown2 hb2; rw [Nat.zero_add, List.nil_append] at hown2; obtain ⟨A2, c2, rfl, _, _, _⟩ := own_reads hown2; have k2 := HK.out.below hb2 (Nat.lt_succ_self _); obtain ⟨t0, t1, z0, z1⟩ := k2.facts)
    have HO := hide (make_end (decide (0 < L.length)) k2 hown2 HB.out hb2)
    clear hown2 hb2 k2 t0 t1 z0 z1
    refine bodyPost_ret (results_cell_row rfl _ _ w.heap.size _ #[.bool (decide (0 < L.length)), .slice A2 L.length c2] (0, 0) _ rfl HO.out.1 Tryz.underlying25 rfl Tryz.sizeBig) rfl ?_
    exact ⟨_, rfl, HO.out.2.1, HO.out.2.2⟩
end Go.Proofs.YtnbaookdeijhhaaGreatDoor

/-
  The reference's big integers: contracts (2): BigIntOf, BigIntToInt, BigIntNeg.
-/


namespace Go.Proofs.YtnbaookdeijhhaaGreatDoor
open Go.RowKit
set_option linter.unusedVariables false

theorem make_limbs (s : Bool) (k : Nat) : (s && !(capT (limbs k)).isEmpty, capT (limbs k)) = capZ (if s then -(k : Int) else k) := by
  rw [capT_capL (limbs_ok k) (val_limbs k)]; exact capZ_make s k
theorem make_eq {s : Bool} {xs : List Int} (h : Limbs xs) {k : Nat} (hk : val xs = k) : (s && !(capT xs).isEmpty, capT xs) = capZ (if s then -(k : Int) else k) := by
  rw [capT_capL h hk]; exact capZ_make s k
set_option maxHeartbeats 1600000 in
theorem spec_BigIntOf (w : World) (B : Nat) (hB : B ≤ w.heap.size) (n : Int) (hwf : (Lit.int .i64 n).wf = true) :
    Calls Tryz.prog 129 #[.int .i64 n] w fun e w' => ∃ v, e = .returned (.agg #[.bool (capZ n).1, v]) ∧ Own w' w.heap.size w'.heap.size 3 v (capZ n).2.length (iv (capZ n).2) ∧ Below w.heap.size w w' := by
  obtain ⟨h1, h2⟩ := bounds_i64 hwf
  have hb0 := below_new w (.cells #[.bool false, .slice none 0 0] 25)
  have k0 := Box.last w 25 #[.bool false, .slice none 0 0] rfl
  have hs0 := alloc_size w (.cells #[.bool false, .slice none 0 0] 25)
  by_cases hmin : n = -9223372036854775808
  · subst hmin
    have hz : capZ (-9223372036854775808) = (true && !(capT [854775808, 223372036, 9]).isEmpty, capT [854775808, 223372036, 9]) := (make_eq (s := true) (k := 9223372036854775808) (fun d hd => by simp at hd; omega) (by simp [val])).symm
    rw [hz]
    clear hz
    obtain ⟨W1, hW1⟩ : ∃ W1, W1 = (w.alloc (.cells #[.bool false, .slice none 0 0] 25)).alloc (.cells #[.int .i64 854775808, .int .i64 223372036, .int .i64 9] 3) := ⟨_, rfl⟩
    have hb1 : Below w.heap.size w W1 := by rw [hW1]; exact below_alloc hb0 _
    have k1 : Box W1 w.heap.size 25 #[.bool false, .slice none 0 0] := by rw [hW1]; exact k0.alloc _
    have hs1 : W1.heap.size = w.heap.size + 2 := by rw [hW1, alloc_size, alloc_size]
    have hblk : Blk W1 (w.heap.size + 1) 3 [854775808, 223372036, 9] := by rw [hW1]; exact Blk.of_heap (heap_last hs0.symm) (by unfold maxLen; show 3 ≤ _; omega)
    have hrd := hblk.rd
    clear hblk hb0 k0 hs0
    go_enter Tryz.func129, Tryz.ntmps129
    go_wp2_with fail
    rw [← hW1]
    clear hW1
    refine (spec_Make W1 (w.heap.size + 2) (by omega) true _ 3 3 [854775808, 223372036, 9] rfl hrd (Nat.le_refl _) (by unfold maxLen; omega)).mono ?_
    rintro e w8 ⟨v8, rfl, o8, hb8⟩
    obtain ⟨A8, c8, rfl⟩ := o8.form
    have k8 := k1.below hb8 k1.lt
    have hb8' := below_then hb1 hb8
    have hs8 := hb8.size
    obtain ⟨t0, t1, z0, z1⟩ := k8.facts
    have HO := hide (ret_big (x := .bool (true && !(capT [854775808, 223372036, 9]).isEmpty)) k8 o8 hb8' (Nat.le_refl _) (by omega) (by omega))
    clear k8 o8 hb8 hb8' k1 hb1 hrd
    go_wp2_with fail
    refine bodyPost_ret (results_cell_row rfl _ _ (w.heap.size) _ #[.bool (true && !(capT [854775808, 223372036, 9]).isEmpty), .slice A8 (capT [854775808, 223372036, 9]).length c8] (0, 0) _ rfl HO.out.1 Tryz.underlying25 rfl Tryz.sizeBig) rfl ?_
    exact ⟨_, rfl, HO.out.2.1, HO.out.2.2⟩
  · have hne : (n == -9223372036854775808) = false := by simp [hmin]
    have hmin' : IntKind.i64.min = -9223372036854775808 := rfl
    have hmax' : IntKind.i64.max = 9223372036854775807 := rfl
    have hmw : (Lit.int .i64 (-n)).wf = true := by simp only [Lit.wf, Bool.and_eq_true, decide_eq_true_eq]; omega
    have HW := hide hmw
    have HW2 := hide hwf
    clear hmin' hmax' hmw hwf
    by_cases hlt : n < 0
    · have hz : capZ n = (true && !(capT (limbs (-n).toNat)).isEmpty, capT (limbs (-n).toNat)) := by rw [make_limbs]; show capZ n = capZ (-((-n).toNat : Int)); congr 1; omega
      have hl3 : (limbs (-n).toNat).length ≤ 3 := limbs_len.2 (by omega)
      rw [hz]
      clear hz
      go_enter Tryz.func129, Tryz.ntmps129
      go_wp2_with fail
      refine (spec_NatOf _ _ (Nat.le_refl _) (-n) HW.out).mono ?_
      rintro e w1 ⟨v1, rfl, q1, hb1⟩
      obtain ⟨A1, c1, rfl, _, _, _⟩ := own_reads q1
      obtain ⟨_, hc1, hcm1⟩ := own_nilcap q1
      have k1 := k0.below hb1 (by omega)
      have hb1' := below_then hb0 hb1
      have hs1 := hb1.size
      have hrd := own_rd q1
      have HC1 := hide hc1
      have HCM := hide hcm1
      clear q1 hb1 k0 hb0 hc1 hcm1
      go_wp2_with fail
      refine (spec_Make w1 w1.heap.size (Nat.le_refl _) true A1 _ c1 (limbs (-n).toNat) rfl hrd HC1.out HCM.out).mono ?_
      rintro e w8 ⟨v8, rfl, o8, hb8⟩
      obtain ⟨A8, c8, rfl⟩ := o8.form
      have k8 := k1.below hb8 k1.lt
      have hb8' := below_then hb1' hb8
      have hs8 := hb8.size
      obtain ⟨t0, t1, z0, z1⟩ := k8.facts
      have HO := hide (ret_big (x := .bool (true && !(capT (limbs (-n).toNat)).isEmpty)) k8 o8 hb8' (Nat.le_refl _) (by omega) (by omega))
      clear k8 o8 hb8 hb8' k1 hb1' hrd
      go_wp2_with fail
      refine bodyPost_ret (results_cell_row rfl _ _ (w.heap.size) _ #[.bool (true && !(capT (limbs (-n).toNat)).isEmpty), .slice A8 (capT (limbs (-n).toNat)).length c8] (0, 0) _ rfl HO.out.1 Tryz.underlying25 rfl Tryz.sizeBig) rfl ?_
      exact ⟨_, rfl, HO.out.2.1, HO.out.2.2⟩
    · have hz : capZ n = (false && !(capT (limbs (n).toNat)).isEmpty, capT (limbs (n).toNat)) := by rw [make_limbs]; show capZ n = capZ ((n.toNat : Nat) : Int); congr 1; omega
      have hl3 : (limbs (n).toNat).length ≤ 3 := limbs_len.2 (by omega)
      rw [hz]
      clear hz
      go_enter Tryz.func129, Tryz.ntmps129
      go_wp2_with fail
      refine (spec_NatOf _ _ (Nat.le_refl _) (n) HW2.out).mono ?_
      rintro e w1 ⟨v1, rfl, q1, hb1⟩
      obtain ⟨A1, c1, rfl, _, _, _⟩ := own_reads q1
      obtain ⟨_, hc1, hcm1⟩ := own_nilcap q1
      have k1 := k0.below hb1 (by omega)
      have hb1' := below_then hb0 hb1
      have hs1 := hb1.size
      have hrd := own_rd q1
      have HC1 := hide hc1
      have HCM := hide hcm1
      clear q1 hb1 k0 hb0 hc1 hcm1
      go_wp2_with fail
      refine (spec_Make w1 w1.heap.size (Nat.le_refl _) false A1 _ c1 (limbs (n).toNat) rfl hrd HC1.out HCM.out).mono ?_
      rintro e w8 ⟨v8, rfl, o8, hb8⟩
      obtain ⟨A8, c8, rfl⟩ := o8.form
      have k8 := k1.below hb8 k1.lt
      have hb8' := below_then hb1' hb8
      have hs8 := hb8.size
      obtain ⟨t0, t1, z0, z1⟩ := k8.facts
      have HO := hide (ret_big (x := .bool (false && !(capT (limbs (n).toNat)).isEmpty)) k8 o8 hb8' (Nat.le_refl _) (by omega) (by omega))
      clear k8 o8 hb8 hb8' k1 hb1' hrd
      go_wp2_with fail
      refine bodyPost_ret (results_cell_row rfl _ _ (w.heap.size) _ #[.bool (false && !(capT (limbs (n).toNat)).isEmpty), .slice A8 (capT (limbs (n).toNat)).length c8] (0, 0) _ rfl HO.out.1 Tryz.underlying25 rfl Tryz.sizeBig) rfl ?_
      exact ⟨_, rfl, HO.out.2.1, HO.out.2.2⟩

end Go.Proofs.YtnbaookdeijhhaaGreatDoor
