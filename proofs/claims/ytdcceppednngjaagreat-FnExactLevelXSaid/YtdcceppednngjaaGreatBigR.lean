/-
  The reference's big integers: contracts (1): Ok, l03Make.
-/
import Derived.Test.YtdcceppednngjaaGreatRA
import Derived.Test.YtdcceppednngjaaGreatNatLen
import Derived.Test.YtdcceppednngjaaGreatPB
namespace Go.Proofs.YtdcceppednngjaaGreat
open Go.RowKit
set_option linter.unusedVariables false

theorem notEmpty_len {xs : List Int} {n : Nat} (h : xs.length = n) : (!xs.isEmpty) = decide (0 < (n : Int)) := by
  subst h; cases xs with
  | nil => rfl
  | cons a l => simp
theorem Rd.take {w : World} {B : Nat} {A : Option Addr} {xs : List Value} (h : Rd w B A xs) (m : Nat) : Rd w B A (xs.take m) := by
  rcases h with e | ⟨ad, hA, hb, hc⟩
  · subst e; exact .inl (by simp)
  · refine .inr ⟨ad, hA, hb, fun k u hu => hc k u ?_⟩
    rw [List.getElem?_take] at hu
    split at hu
    · exact hu
    · cases hu
set_option maxHeartbeats 800000 in
theorem spec_BigIntOk (w : World) (B : Nat) (hB : B ≤ w.heap.size) (s : Bool) (A : Option Addr) (n c : Nat) (xs : List Int) (R : RdI w B A n xs) :
    Calls Tryz.prog 49 #[.agg #[.bool s, .slice A n c]] w fun e w' => e = .returned (.bool (bigB s xs)) ∧ Below w.heap.size w w' := by
  have hb0 := below_new w (.cells #[.bool s, .slice A n c] 28)
  have hs0 := hb0.size
  have R1 := R.below (hb0.mono hB)
  have HC := hide (spec_NatOk _ B (by omega) A n c xs R1)
  have hxl := R.1
  clear R1
  by_cases hn : natB xs = true
  · rw [hn] at HC
    cases s
    · have hv : bigB false xs = true := by rw [bigB, hn]; rfl
      rw [hv]
      go_enter Tryz.func49, Tryz.ntmps49
      go_wp2_with fail
      refine HC.out.mono ?_
      rintro e w1 ⟨rfl, rfl⟩
      go_wp2_with fail
      go_ret
      exact ⟨rfl, hb0⟩
    · have hv : bigB true xs = decide (0 < (n : Int)) := by rw [bigB, hn, ← notEmpty_len hxl]; rfl
      rw [hv]
      clear hv
      go_enter Tryz.func49, Tryz.ntmps49
      go_wp2_with fail
      refine HC.out.mono ?_
      rintro e w1 ⟨rfl, rfl⟩
      by_cases h0 : 0 < (n : Int)
      · go_wp2_with fail
        go_ret
        exact ⟨by simp, hb0⟩
      · go_wp2_with fail
        go_ret
        exact ⟨by simp, hb0⟩
  · have hn : natB xs = false := by simpa using hn
    rw [hn] at HC
    rw [bigB_bad hn]
    go_enter Tryz.func49, Tryz.ntmps49
    go_wp2_with fail
    refine HC.out.mono ?_
    rintro e w1 ⟨rfl, rfl⟩
    go_wp2_with fail
    go_ret
    exact ⟨rfl, hb0⟩
set_option maxHeartbeats 800000 in
theorem spec_CapR (w : World) (B : Nat) (A : Option Addr) (n c : Nat) (xs : List Int) (hn : xs.length = n) (hx : Rd w B A (iv xs)) (hc : n ≤ c) (hcm : c ≤ maxLen) :
    Calls Tryz.prog 72 #[.slice A n c] w fun e w' => ∃ A1 c1, e = .returned (.slice A1 (capT xs).length c1) ∧ Rd w B A1 (iv (capT xs)) ∧ w = w' := by
  have hcm' := hcm
  unfold maxLen at hcm'
  go_enter Tryz.func72, Tryz.ntmps72
  go_wp2_with fail
  refine (spec_Trim w B A n c xs hn hx hc hcm).mono ?_
  rintro e w' ⟨m, rfl, hm, hT, rfl⟩
  have hml : (trim xs).length = m := by rw [hT, List.length_take]; omega
  by_cases h60 : m ≤ 60
  · have HC : Hid (capT xs = trim xs) := by show _ = _; rw [capT, if_pos (by omega)]
    have HM := hide hml
    have HT := hide hT
    have HX := hide hx
    clear hml hT hx hcm
    go_wp2_with fail
    go_ret
    refine ⟨A, c, by rw [HC.out, HM.out]; rfl, ?_, rfl⟩
    rw [HC.out, HT.out, show iv (xs.take m) = (iv xs).take m by simp [iv, List.map_take]]
    exact HX.out.take m
  · have HC : Hid (capT xs = []) := by show _ = _; rw [capT, if_neg (by omega)]
    have h60' : 60 < m := by omega
    clear hml hT h60 hx hcm
    go_wp2_with fail
    go_ret
    exact ⟨none, 0, by rw [HC.out]; rfl, by rw [HC.out]; exact .inl rfl, rfl⟩
theorem own_zero (w : World) (E : TypeId) : (w.alloc (.cells #[] E)).ownsRow w.heap.size E 1 (.slice (some ⟨w.heap.size, 0, none⟩) 0 0) 0 [] :=
  ⟨rfl, .inr ⟨w.heap.size, 0, #[], rfl, Nat.le_refl _, heap_last rfl, Nat.le_refl _, by unfold maxLen; omega, rfl, rfl⟩⟩
theorem capT_len (xs : List Int) : (capT xs).length ≤ 60 := by unfold capT; split <;> simp_all
theorem make_end {w W W' : World} {E F : TypeId} {a b v : Value} {L : List Int} (x : Bool) (k : Box W' w.heap.size E #[a, b]) (o : W'.ownsRow (w.heap.size + 1) F 1 v L.length (iv L)) (hb : Below w.heap.size w W) (hb2 : Below (w.heap.size + 1) W W') :
    Box ((W'.setCell ⟨w.heap.size, 0, none⟩ (.bool x)).setCell ⟨w.heap.size, 1, none⟩ v) w.heap.size E #[.bool x, v] ∧ Own ((W'.setCell ⟨w.heap.size, 0, none⟩ (.bool x)).setCell ⟨w.heap.size, 1, none⟩ v) w.heap.size ((W'.setCell ⟨w.heap.size, 0, none⟩ (.bool x)).setCell ⟨w.heap.size, 1, none⟩ v).heap.size F v L.length (iv L) ∧ Below w.heap.size w ((W'.setCell ⟨w.heap.size, 0, none⟩ (.bool x)).setCell ⟨w.heap.size, 1, none⟩ v) := by
  have o2 := Own.of_row o (Nat.le_refl _)
  exact ret_big k o2 (hb.trans (hb2.mono (Nat.le_succ _))) (Nat.le_refl _) (Nat.lt_succ_self _) (Nat.le_refl _)
set_option maxHeartbeats 1600000 in
theorem spec_Make (w : World) (B : Nat) (hB : B ≤ w.heap.size) (s : Bool) (A : Option Addr) (n c : Nat) (xs : List Int) (hn : xs.length = n) (hx : Rd w B A (iv xs)) (hc : n ≤ c) (hcm : c ≤ maxLen) :
    Calls Tryz.prog 50 #[.bool s, .slice A n c] w fun e w' => ∃ v, e = .returned (.agg #[.bool (s && !(capT xs).isEmpty), v]) ∧ Own w' w.heap.size w'.heap.size 3 v (capT xs).length (iv (capT xs)) ∧ Below w.heap.size w w' := by
  have hb0 := below_new w (.cells #[.bool false, .slice none 0 0] 28)
  have k0 := Box.last w 28 #[.bool false, .slice none 0 0] rfl
  have hs0 := alloc_size w (.cells #[.bool false, .slice none 0 0] 28)
  have HC := hide (spec_CapR (w.alloc (.cells #[.bool false, .slice none 0 0] 28)) B A n c xs hn (hx.below (hb0.mono hB)) hc hcm)
  have hl60 := capT_len xs
  clear hx hcm hc hn
  generalize capT xs = L at *
  obtain ⟨b, hbe⟩ : ∃ b, b = (s && !L.isEmpty) := ⟨_, rfl⟩
  rw [← hbe]
  rw [notEmpty_len (xs := L) rfl] at hbe
  cases s
  · obtain rfl : b = false := hbe
    go_enter Tryz.func50, Tryz.ntmps50
    go_wp2_with fail
    refine HC.out.mono ?_
    rintro e w1 ⟨A1, c1, rfl, hr, rfl⟩
    have hE := own_zero (w.alloc (.cells #[.bool false, .slice none 0 0] 28)) 3
    rw [hs0] at hE
    have HE := hide hE
    have HRD := hide (hr.wider (show B ≤ (w.alloc (.cells #[.bool false, .slice none 0 0] 28)).heap.size by omega) |>.alloc (Nat.le_refl _) (.cells #[] 3))
    have HK := hide (k0.alloc (.cells #[] 3))
    have HB := hide (below_alloc hb0 (.cells #[] 3))
    have hsz := alloc_size (w.alloc (.cells #[.bool false, .slice none 0 0] 28)) (.cells #[] 3)
    rw [hs0] at hsz
    have hie := hide (isEmpty_len (xs := L) rfl)
    have HS0 := hide hs0
    clear hE hr HC k0 hb0 hs0
    go_wp2_with (at_builtin; refine wpList_append_rd Tryz.sliceInt rfl rfl _ _ rfl ((w.alloc (.cells #[.bool false, .slice none 0 0] 28)).alloc (.cells #[] 3)) (w.heap.size + 1) _ 0 [] HE.out rfl _ A1 L.length c1 (iv L) rfl (iv_len _) HRD.out (iv_one _) (by unfold maxLen; omega) (by omega) (by omega) ?_; intro v' w2 hown2 hb2; rw [Nat.zero_add, List.nil_append] at hown2; obtain ⟨A2, c2, rfl, _, _, _⟩ := own_reads hown2; have k2 := HK.out.below hb2 (Nat.lt_succ_self _); obtain ⟨t0, t1, z0, z1⟩ := k2.facts)
    have HO := hide (make_end false k2 hown2 HB.out hb2)
    clear hown2 hb2 k2 t0 t1 z0 z1
    refine bodyPost_ret (results_cell_row rfl _ _ w.heap.size _ #[.bool false, .slice A2 L.length c2] (0, 0) _ rfl HO.out.1 Tryz.underlying28 rfl Tryz.sizeBig) rfl ?_
    exact ⟨_, rfl, HO.out.2.1, HO.out.2.2⟩
  · obtain rfl : b = decide (0 < L.length) := by rw [hbe]; simp
    clear hbe
    go_enter Tryz.func50, Tryz.ntmps50
    go_wp2_with fail
    refine HC.out.mono ?_
    rintro e w1 ⟨A1, c1, rfl, hr, rfl⟩
    have hE := own_zero (w.alloc (.cells #[.bool false, .slice none 0 0] 28)) 3
    rw [hs0] at hE
    have HE := hide hE
    have HRD := hide (hr.wider (show B ≤ (w.alloc (.cells #[.bool false, .slice none 0 0] 28)).heap.size by omega) |>.alloc (Nat.le_refl _) (.cells #[] 3))
    have HK := hide (k0.alloc (.cells #[] 3))
    have HB := hide (below_alloc hb0 (.cells #[] 3))
    have hsz := alloc_size (w.alloc (.cells #[.bool false, .slice none 0 0] 28)) (.cells #[] 3)
    rw [hs0] at hsz
    have hie := hide (isEmpty_len (xs := L) rfl)
    have HS0 := hide hs0
    clear hE hr HC k0 hb0 hs0
    go_wp2_with (at_builtin; refine wpList_append_rd Tryz.sliceInt rfl rfl _ _ rfl ((w.alloc (.cells #[.bool false, .slice none 0 0] 28)).alloc (.cells #[] 3)) (w.heap.size + 1) _ 0 [] HE.out rfl _ A1 L.length c1 (iv L) rfl (iv_len _) HRD.out (iv_one _) (by unfold maxLen; omega) (by omega) (by omega) ?_; intro v' w2 hown2 hb2; rw [Nat.zero_add, List.nil_append] at hown2; obtain ⟨A2, c2, rfl, _, _, _⟩ := own_reads hown2; have k2 := HK.out.below hb2 (Nat.lt_succ_self _); obtain ⟨t0, t1, z0, z1⟩ := k2.facts)
    have HO := hide (make_end (decide (0 < L.length)) k2 hown2 HB.out hb2)
    clear hown2 hb2 k2 t0 t1 z0 z1
    refine bodyPost_ret (results_cell_row rfl _ _ w.heap.size _ #[.bool (decide (0 < L.length)), .slice A2 L.length c2] (0, 0) _ rfl HO.out.1 Tryz.underlying28 rfl Tryz.sizeBig) rfl ?_
    exact ⟨_, rfl, HO.out.2.1, HO.out.2.2⟩
end Go.Proofs.YtdcceppednngjaaGreat
