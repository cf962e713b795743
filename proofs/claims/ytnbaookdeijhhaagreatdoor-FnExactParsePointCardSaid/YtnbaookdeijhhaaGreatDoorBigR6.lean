/-
  The reference's big integers: contracts (6): Parse.
-/
import Derived.Test.YtnbaookdeijhhaaGreatDoorBigR
import Derived.Test.YtnbaookdeijhhaaGreatDoorBigQ
import Derived.Test.YtnbaookdeijhhaaGreatDoorNatR10
namespace Go.Proofs.YtnbaookdeijhhaaGreatDoor
open Go.RowKit
set_option linter.unusedVariables false

theorem signB_45 {s : ByteArray} (h : 0 < s.size) : signB s = ((s[0].toNat : Int) == 45) := by
  rw [signB, dif_pos h]
  by_cases he : s[0] = 45
  · rw [he]; rfl
  · have h1 : (s[0] == 45) = false := by simpa using he
    have h2 : ((s[0].toNat : Int) == 45) = false := by
      have : s[0].toNat ≠ 45 := fun e => he (UInt8.toNat_inj.1 e)
      simp; omega
    rw [h1, h2]
set_option maxHeartbeats 1600000 in
theorem spec_ParseBigInt (w : World) (B : Nat) (hB : B ≤ w.heap.size) (s : ByteArray) (hm : s.size ≤ 1048576) :
    Calls Tryz.prog 122 #[.string s] w fun e w' => ∃ v, e = .returned (.tuple #[.agg #[.bool (parseZ s).1, v], .bool (parseZB s)]) ∧ Own w' w.heap.size w'.heap.size 3 v (parseZ s).2.length (iv (parseZ s).2) ∧ Below w.heap.size w w' := by
  have hb0 := below_new w (.cells #[.bool false, .slice none 0 0] 25)
  have k0 := Box.last w 25 #[.bool false, .slice none 0 0] rfl
  have hs0 := alloc_size w (.cells #[.bool false, .slice none 0 0] 25)
  by_cases h0 : 0 < s.size
  · have h0i : (0 : Int) < (s.size : Int) := by omega
    by_cases h45 : ((s[0].toNat : Int) == 45) = true
    · have hsg : signB s = true := by rw [signB_45 h0]; exact h45
      have hrs : restB s = s.extract 1 s.size := by rw [restB, if_pos hsg]
      have hrm : (s.extract 1 s.size).size ≤ 1048576 := by rw [ByteArray.size_extract]; omega
      have hzb : parseZB s = (parseB (s.extract 1 s.size) && !(true && (parseL (s.extract 1 s.size)).isEmpty)) := by rw [parseZB, hsg, hrs]
      have hzz : parseZ s = if parseZB s then (true, parseL (s.extract 1 s.size)) else noZ := by rw [parseZ, hsg, hrs]
      have HZB := hide hzb
      have HZZ := hide hzz
      clear hzb hzz
      generalize parseZ s = Z at HZZ ⊢
      generalize parseZB s = zb at HZB HZZ ⊢
      have HSG := hide hsg
      have HRS := hide hrs
      clear hsg hrs
      go_enter Tryz.func122, Tryz.ntmps122
      go_wp2_with fail
      refine (spec_ParseNat _ _ (Nat.le_refl _) (s.extract 1 s.size) hrm).mono ?_
      rintro e w1 ⟨v1, rfl, q1, hb1⟩
      obtain ⟨A1, c1, rfl, _, _, _⟩ := own_reads q1
      have HC1 := hide (own_nilcap q1).2.1
      have HCM := hide (own_nilcap q1).2.2
      have hrd := own_rd q1
      have hb1' := below_then hb0 hb1
      have hs1 := hb1.size
      have k1 := k0.below hb1 (by omega)
      clear k0 hb0 hb1
      obtain ⟨t0, t1, z0, z1⟩ := k1.facts
      by_cases hp : parseB (s.extract 1 s.size) = true
      · have h1 := HZB.out
        rw [hp] at h1
        by_cases he : (parseL (s.extract 1 s.size)).length = 0
        · have hie : (parseL (s.extract 1 s.size)).isEmpty = true := by rw [isEmpty_len rfl, he]; rfl
          rw [hie] at h1
          obtain rfl : zb = false := h1
          have h2 : Z = noZ := HZZ.out
          subst h2
          have hez : (((parseL (s.extract 1 s.size)).length : Int) == 0) = true := by rw [he]; rfl
          clear HZB HZZ hie he
          rw [hp]
          have HO := hide (ret_big0 (x := .bool false) (v := .slice none 0 0) k1 hb1' (Nat.le_refl _))
          clear q1 hrd k1 hb1' HC1 HCM
          go_wp2_with fail
          refine bodyPost_ret (results_cell_tmp rfl _ _ w.heap.size _ #[.bool false, .slice none 0 0] (0, 0) _ rfl HO.out.1 Tryz.underlying25 rfl Tryz.sizeBig) rfl ?_
          exact ⟨_, rfl, Own.nil _ _ _ _, HO.out.2⟩
        · have hez : (((parseL (s.extract 1 s.size)).length : Int) == 0) = false := by simp; intro e; exact he (by rw [e]; rfl)
          have hie : (parseL (s.extract 1 s.size)).isEmpty = false := by rw [isEmpty_len rfl]; exact hez
          rw [hie] at h1
          obtain rfl : zb = true := h1
          have h2 := HZZ.out
          rw [if_pos rfl] at h2
          subst h2
          clear HZB HZZ hie he
          rw [hp]
          have o1 := Own.of_row q1 (Nat.le_refl _)
          have HO := hide (ret_big (x := .bool true) k1 o1 hb1' (Nat.le_refl _) (by omega) (Nat.le_refl _))
          clear q1 hrd k1 hb1' HC1 HCM o1
          go_wp2_with fail
          refine bodyPost_ret (results_cell_tmp rfl _ _ w.heap.size _ #[.bool true, .slice A1 (parseL (s.extract 1 s.size)).length c1] (0, 0) _ rfl HO.out.1 Tryz.underlying25 rfl Tryz.sizeBig) rfl ?_
          exact ⟨_, rfl, HO.out.2.1, HO.out.2.2⟩
      · have hp : parseB (s.extract 1 s.size) = false := by simpa using hp
        have h1 := HZB.out
        rw [hp] at h1
        obtain rfl : zb = false := h1
        have h2 : Z = noZ := HZZ.out
        subst h2
        clear HZB HZZ
        rw [hp]
        have HO := hide (ret_big0 (x := .bool false) (v := .slice none 0 0) k1 hb1' (Nat.le_refl _))
        clear q1 hrd k1 hb1' HC1 HCM
        go_wp2_with fail
        refine bodyPost_ret (results_cell_tmp rfl _ _ w.heap.size _ #[.bool false, .slice none 0 0] (0, 0) _ rfl HO.out.1 Tryz.underlying25 rfl Tryz.sizeBig) rfl ?_
        exact ⟨_, rfl, Own.nil _ _ _ _, HO.out.2⟩
    · have h45 : ((s[0].toNat : Int) == 45) = false := by simpa using h45
      have hsg : signB s = false := by rw [signB_45 h0]; exact h45
      have hrs : restB s = s := by rw [restB, hsg]; rfl
      have hrm := hm
      have hzb : parseZB s = (parseB s && !(false && (parseL s).isEmpty)) := by rw [parseZB, hsg, hrs]
      have hzz : parseZ s = if parseZB s then (false, parseL s) else noZ := by rw [parseZ, hsg, hrs]
      have HZB := hide hzb
      have HZZ := hide hzz
      clear hzb hzz
      generalize parseZ s = Z at HZZ ⊢
      generalize parseZB s = zb at HZB HZZ ⊢
      have HSG := hide hsg
      have HRS := hide hrs
      clear hsg hrs
      go_enter Tryz.func122, Tryz.ntmps122
      go_wp2_with fail
      refine (spec_ParseNat _ _ (Nat.le_refl _) s hrm).mono ?_
      rintro e w1 ⟨v1, rfl, q1, hb1⟩
      obtain ⟨A1, c1, rfl, _, _, _⟩ := own_reads q1
      have HC1 := hide (own_nilcap q1).2.1
      have HCM := hide (own_nilcap q1).2.2
      have hrd := own_rd q1
      have hb1' := below_then hb0 hb1
      have hs1 := hb1.size
      have k1 := k0.below hb1 (by omega)
      clear k0 hb0 hb1
      obtain ⟨t0, t1, z0, z1⟩ := k1.facts
      by_cases hp : parseB s = true
      · have h1 := HZB.out
        rw [hp] at h1
        obtain rfl : zb = true := h1
        have h2 := HZZ.out
        rw [if_pos rfl] at h2
        subst h2
        clear HZB HZZ
        rw [hp]
        have o1 := Own.of_row q1 (Nat.le_refl _)
        have HO := hide (ret_big (x := .bool false) k1 o1 hb1' (Nat.le_refl _) (by omega) (Nat.le_refl _))
        clear q1 hrd k1 hb1' HC1 HCM o1
        go_wp2_with fail
        refine bodyPost_ret (results_cell_tmp rfl _ _ w.heap.size _ #[.bool false, .slice A1 (parseL s).length c1] (0, 0) _ rfl HO.out.1 Tryz.underlying25 rfl Tryz.sizeBig) rfl ?_
        exact ⟨_, rfl, HO.out.2.1, HO.out.2.2⟩
      · have hp : parseB s = false := by simpa using hp
        have h1 := HZB.out
        rw [hp] at h1
        obtain rfl : zb = false := h1
        have h2 : Z = noZ := HZZ.out
        subst h2
        clear HZB HZZ
        rw [hp]
        have HO := hide (ret_big0 (x := .bool false) (v := .slice none 0 0) k1 hb1' (Nat.le_refl _))
        clear q1 hrd k1 hb1' HC1 HCM
        go_wp2_with fail
        refine bodyPost_ret (results_cell_tmp rfl _ _ w.heap.size _ #[.bool false, .slice none 0 0] (0, 0) _ rfl HO.out.1 Tryz.underlying25 rfl Tryz.sizeBig) rfl ?_
        exact ⟨_, rfl, Own.nil _ _ _ _, HO.out.2⟩
  · have h0i : ¬ (0 : Int) < (s.size : Int) := by omega
    have hsg : signB s = false := by rw [signB, dif_neg h0]
    have hrs : restB s = s := by rw [restB, hsg]; rfl
    have hrm := hm
    have hzb : parseZB s = (parseB s && !(false && (parseL s).isEmpty)) := by rw [parseZB, hsg, hrs]
    have hzz : parseZ s = if parseZB s then (false, parseL s) else noZ := by rw [parseZ, hsg, hrs]
    have HZB := hide hzb
    have HZZ := hide hzz
    clear hzb hzz
    generalize parseZ s = Z at HZZ ⊢
    generalize parseZB s = zb at HZB HZZ ⊢
    have HSG := hide hsg
    have HRS := hide hrs
    clear hsg hrs
    go_enter Tryz.func122, Tryz.ntmps122
    go_wp2_with fail
    refine (spec_ParseNat _ _ (Nat.le_refl _) s hrm).mono ?_
    rintro e w1 ⟨v1, rfl, q1, hb1⟩
    obtain ⟨A1, c1, rfl, _, _, _⟩ := own_reads q1
    have HC1 := hide (own_nilcap q1).2.1
    have HCM := hide (own_nilcap q1).2.2
    have hrd := own_rd q1
    have hb1' := below_then hb0 hb1
    have hs1 := hb1.size
    have k1 := k0.below hb1 (by omega)
    clear k0 hb0 hb1
    obtain ⟨t0, t1, z0, z1⟩ := k1.facts
    by_cases hp : parseB s = true
    · have h1 := HZB.out
      rw [hp] at h1
      obtain rfl : zb = true := h1
      have h2 := HZZ.out
      rw [if_pos rfl] at h2
      subst h2
      clear HZB HZZ
      rw [hp]
      have o1 := Own.of_row q1 (Nat.le_refl _)
      have HO := hide (ret_big (x := .bool false) k1 o1 hb1' (Nat.le_refl _) (by omega) (Nat.le_refl _))
      clear q1 hrd k1 hb1' HC1 HCM o1
      go_wp2_with fail
      refine bodyPost_ret (results_cell_tmp rfl _ _ w.heap.size _ #[.bool false, .slice A1 (parseL s).length c1] (0, 0) _ rfl HO.out.1 Tryz.underlying25 rfl Tryz.sizeBig) rfl ?_
      exact ⟨_, rfl, HO.out.2.1, HO.out.2.2⟩
    · have hp : parseB s = false := by simpa using hp
      have h1 := HZB.out
      rw [hp] at h1
      obtain rfl : zb = false := h1
      have h2 : Z = noZ := HZZ.out
      subst h2
      clear HZB HZZ
      rw [hp]
      have HO := hide (ret_big0 (x := .bool false) (v := .slice none 0 0) k1 hb1' (Nat.le_refl _))
      clear q1 hrd k1 hb1' HC1 HCM
      go_wp2_with fail
      refine bodyPost_ret (results_cell_tmp rfl _ _ w.heap.size _ #[.bool false, .slice none 0 0] (0, 0) _ rfl HO.out.1 Tryz.underlying25 rfl Tryz.sizeBig) rfl ?_
      exact ⟨_, rfl, Own.nil _ _ _ _, HO.out.2⟩
end Go.Proofs.YtnbaookdeijhhaaGreatDoor
