/-
  The program's big integers: contracts (11): Parse.
-/
import Derived.Test.YtnbaookdeijhhaaGreatDoorBA
import Derived.Test.YtnbaookdeijhhaaGreatDoorBigQ
import Derived.Test.YtnbaookdeijhhaaGreatDoorNatI12
import Derived.Deep.CutRange
namespace Go.Proofs.YtnbaookdeijhhaaGreatDoor
open Go.RowKit
set_option linter.unusedVariables false
set_option maxHeartbeats 800000 in
theorem lib_HasPrefix (w : World) (s : ByteArray) (hm : s.size ≤ 1048576) :
    Calls Tryz.prog 172 #[.string s, .string minusB] w fun e w' => e = .returned (.bool (signB s)) ∧ w = w' := by
  have hms : minusB.size = 1 := rfl
  by_cases h0 : 0 < s.size
  · have h1 : (1 : Int) ≤ (s.size : Int) := by omega
    have hc := hide (cut_minus h0)
    go_enter Tryz.func172, Tryz.ntmps172
    go_wp2_with fail
    rw [hc.out]
    go_ret
    exact ⟨rfl, rfl⟩
  · have h1 : ¬ (1 : Int) ≤ (s.size : Int) := by omega
    have hv : signB s = false := by rw [signB, dif_neg h0]
    rw [hv]
    go_enter Tryz.func172, Tryz.ntmps172
    go_wp2_with fail
    go_ret
    exact ⟨rfl, rfl⟩
set_option maxHeartbeats 800000 in
theorem lib_CutPrefix0 (w : World) (s : ByteArray) (hm : s.size ≤ 1048576) :
    Calls Tryz.prog 131 #[.string s, .string minusB] w fun e w' => e = .returned (.tuple #[.string (restB s), .bool (signB s)]) ∧ w = w' := by
  have hms : minusB.size = 1 := rfl
  by_cases hv : signB s = true
  · have h0 := signB_pos hv
    have h1 : (1 : Int) ≤ (s.size : Int) := by omega
    have hr : restB s = s.extract 1 s.size := by rw [restB, if_pos hv]
    have HC := hide (lib_HasPrefix w s hm)
    rw [hv] at HC
    rw [hr, hv]
    clear hr
    go_enter Tryz.func131, Tryz.ntmps131
    go_wp2_with fail
    refine HC.out.mono ?_
    rintro e w1 ⟨rfl, rfl⟩
    go_wp2_with fail
    go_ret2
    exact ⟨rfl, rfl⟩
  · have hv : signB s = false := by simpa using hv
    have hr : restB s = s := by rw [restB, hv]; rfl
    have HC := hide (lib_HasPrefix w s hm)
    rw [hv] at HC
    rw [hr, hv]
    clear hr
    go_enter Tryz.func131, Tryz.ntmps131
    go_wp2_with fail
    refine HC.out.mono ?_
    rintro e w1 ⟨rfl, rfl⟩
    go_wp2_with fail
    go_ret2
    exact ⟨rfl, rfl⟩
set_option maxHeartbeats 800000 in
theorem lib_CutPrefix (w : World) (s : ByteArray) (hm : s.size ≤ 1048576) :
    Calls Tryz.prog 82 #[.string s, .string minusB] w fun e w' => e = .returned (.tuple #[.string (restB s), .bool (signB s)]) ∧ w = w' := by
  go_enter Tryz.func82, Tryz.ntmps82
  go_wp2_with fail
  refine (lib_CutPrefix0 w s hm).mono ?_
  rintro e w1 ⟨rfl, rfl⟩
  go_wp2_with fail
  go_ret2
  exact ⟨rfl, rfl⟩
set_option maxHeartbeats 1600000 in
theorem impl_ParseBigInt (w : World) (B : Nat) (hB : B ≤ w.heap.size) (s : ByteArray) (hm : s.size ≤ 1048576) :
    Calls Tryz.prog 40 #[.string s] w fun e w' => ∃ v, e = .returned (.tuple #[.agg #[.bool (parseZ s).1, v], .bool (parseZB s)]) ∧ Own w' w.heap.size w'.heap.size 3 v (parseZ s).2.length (iv (parseZ s).2) ∧ Below w.heap.size w w' := by
  have hb0 := below_new w (.cells #[.bool false, .slice none 0 0] 25)
  have k0 := Box.last w 25 #[.bool false, .slice none 0 0] rfl
  have hs0 := alloc_size w (.cells #[.bool false, .slice none 0 0] 25)
  have hrs : (restB s).size ≤ 1048576 := Nat.le_trans (restB_size s) hm
  have HL := hide (lib_CutPrefix (w.alloc (.cells #[.bool false, .slice none 0 0] 25)) s hm)
  have HN := hide (fun (h : parseZB s = false) => (by rw [parseZ, h]; rfl : parseZ s = noZ))
  have HY := hide (fun (h : parseZB s = true) => (by rw [parseZ, if_pos h] : parseZ s = (signB s, parseL (restB s))))
  have HG := hide (fun (h : parseB (restB s) = true) => parseZ_big h)
  have HF := hide (fun (h : parseB (restB s) = false) => (by rw [parseZB, h]; rfl : parseZB s = false))
  generalize parseZ s = Z at HN HY ⊢
  generalize parseZB s = zb at HN HY HG HF ⊢
  go_enter Tryz.func40, Tryz.ntmps40
  go_wp2_with fail
  refine HL.out.mono ?_
  rintro e w1 ⟨rfl, rfl⟩
  clear HL
  go_wp2_with fail
  refine (impl_ParseNat _ _ (Nat.le_refl _) (restB s) hrs).mono ?_
  rintro e w1 ⟨v1, rfl, o1, hb1⟩
  obtain ⟨A1, c1, rfl⟩ := o1.form
  have hb1' := below_then hb0 hb1
  have hs1 := hb1.size
  have k1 := k0.below hb1 (by omega)
  by_cases hp : parseB (restB s) = true
  · have hbig := HG.out hp
    clear HG HF
    have hl60 : (parseL (restB s)).length ≤ 60 := ((natB_iff _).1 (natB_parse hp)).2
    have hlim : Limbs (parseL (restB s)) := ((natB_iff _).1 (natB_parse hp)).1.1
    rw [hp]
    have R1 := RdI.of_own o1 (by omega) hlim
    have R2 := R1.at_ (R1.2.1.alloc (Nat.le_refl _) (.cells #[.bool (signB s), .slice A1 (parseL (restB s)).length c1] 25))
    have hbW := below_new w1 (.cells #[.bool (signB s), .slice A1 (parseL (restB s)).length c1] 25)
    have kW := Box.last w1 25 #[.bool (signB s), .slice A1 (parseL (restB s)).length c1] rfl
    have HC := hide (impl_BigIntOk _ w1.heap.size hbW.size (signB s) A1 _ c1 _ R2)
    rw [hbig] at HC
    clear hp hbig R1 R2 hlim hb0 k0 hrs
    have HL := hide hl60
    clear hl60
    generalize parseL (restB s) = L at *
    go_wp2_with fail
    refine HC.out.mono ?_
    rintro e w2 ⟨rfl, hb2⟩
    have hb2' := below_then (below_alloc hb1' _) hb2
    have r2 := (k1.alloc _).below hb2 (k1.alloc _).lt
    have kx2 := kW.below hb2 kW.lt
    have o2 := (o1.below hbW (Nat.le_refl _)).below hb2 hbW.size
    have hs2 := hb2.size
    rw [alloc_size] at hs2
    have d0 := kx2.cell 0
    have d1 := kx2.cell 1
    have z0 := r2.frozen 0
    have z1 := r2.frozen 1
    have t0 := r2.cell 0
    have t1 := r2.cell 1
    simp only [List.getElem?_toArray, List.getElem?_cons_zero, List.getElem?_cons_succ] at d0 d1 t0 t1
    clear kx2 kW hbW hb2 hb1' hb1 o1 k1 HC
    cases zb
    · have hz := HN.out rfl
      subst hz
      have HO := hide (ret_big0 (x := .bool false) (v := .slice none 0 0) r2 hb2' (Nat.le_refl _))
      clear r2 hb2' o2 HN HY
      go_wp2_with fail
      refine bodyPost_ret (results_cell_tmp rfl _ _ w.heap.size _ #[.bool false, .slice none 0 0] (0, 0) _ rfl HO.out.1 Tryz.underlying25 rfl Tryz.sizeBig) rfl ?_
      exact ⟨_, rfl, Own.nil _ _ _ _, HO.out.2⟩
    · have hz := HY.out rfl
      subst hz
      have HO := hide (ret_big (x := .bool (signB s)) r2 o2 hb2' (Nat.le_refl _) (by omega) (by omega))
      clear r2 hb2' o2 HN HY
      go_wp2_with fail
      refine bodyPost_ret (results_cell_tmp rfl _ _ w.heap.size _ #[.bool (signB s), .slice A1 L.length c1] (0, 0) _ rfl HO.out.1 Tryz.underlying25 rfl Tryz.sizeBig) rfl ?_
      exact ⟨_, rfl, HO.out.2.1, HO.out.2.2⟩
  · have hp : parseB (restB s) = false := by simpa using hp
    have hz0 := HF.out hp
    subst hz0
    have hz := HN.out rfl
    subst hz
    rw [hp]
    clear HG HF
    obtain ⟨W2, hW2⟩ : ∃ W2, W2 = w1.alloc (.cells #[.bool (signB s), .slice A1 (parseL (restB s)).length c1] 25) := ⟨_, rfl⟩
    have r2 : Box W2 w.heap.size 25 #[.bool false, .slice none 0 0] := by rw [hW2]; exact k1.alloc _
    have hb2' : Below w.heap.size w W2 := by rw [hW2]; exact below_alloc hb1' _
    have z0 := r2.frozen 0
    have z1 := r2.frozen 1
    have t0 := r2.cell 0
    have t1 := r2.cell 1
    simp only [List.getElem?_toArray, List.getElem?_cons_zero, List.getElem?_cons_succ] at t0 t1
    have HO := hide (ret_big0 (x := .bool false) (v := .slice none 0 0) r2 hb2' (Nat.le_refl _))
    clear r2 hb2' HN HY hp hb0 k0 k1 o1 hb1 hb1'
    go_upto_region 5 with fail
    rw [← hW2]
    clear hW2
    go_wp2_with fail
    refine bodyPost_ret (results_cell_tmp rfl _ _ w.heap.size _ #[.bool false, .slice none 0 0] (0, 0) _ rfl HO.out.1 Tryz.underlying25 rfl Tryz.sizeBig) rfl ?_
    exact ⟨_, rfl, Own.nil _ _ _ _, HO.out.2⟩
end Go.Proofs.YtnbaookdeijhhaaGreatDoor
