/-
  The reference's natural numbers: contracts (10): ParseNat.
-/
import Derived.Test.YtnbaookdeijhhaaGreatDoorPA
import Derived.Test.YtnbaookdeijhhaaGreatDoorDigS
import Derived.Test.YtnbaookdeijhhaaGreatDoorRB
namespace Go.Proofs.YtnbaookdeijhhaaGreatDoor
open Go.RowKit
set_option linter.unusedVariables false

set_option maxRecDepth 100000 in
set_option maxHeartbeats 3200000 in
theorem spec_ParseNat (w : World) (B : Nat) (hB : B ≤ w.heap.size) (s : ByteArray) (hs : s.size ≤ 1048576) :
    Calls Tryz.prog 123 #[.string s] w fun e w' => ∃ v, e = .returned (.tuple #[v, .bool (parseB s)]) ∧ w'.ownsRow w.heap.size 3 1 v (parseL s).length (iv (parseL s)) ∧ Below w.heap.size w w' := by
  have HD := hide (spec_IsDigits s w (by unfold maxLen; omega))
  by_cases hd : digsB s = true
  · obtain ⟨hp, hall⟩ := digs_all hd
    by_cases hbig : 540 < s.size
    · have hno : parseB s = false := by rw [parseB, hd]; simp; omega
      have HN : Hid (parseB s = false ∧ parseL s = []) := ⟨hno, parse_no hno⟩
      clear hno hall
      go_enter Tryz.func123, Tryz.ntmps123
      go_wp2_with fail
      refine HD.out.mono ?_
      rintro e w' ⟨rfl, rfl⟩
      go_wp2_with fail
      go_ret2
      exact ⟨_, ret_vb rfl HN.out.1.symm, by rw [HN.out.2]; exact World.ownsRow_nil _ _ _ _, Below.refl _ _⟩
    · by_cases hz : 1 < s.size ∧ (s[0].toNat : Int) = 48
      · obtain ⟨hz1, hz2⟩ := hz
        have hno : parseB s = false := by
          have : dg s 0 = 0 := by rw [dg_in hp]; omega
          rw [parseB, hd, this]; simp; omega
        have HN : Hid (parseB s = false ∧ parseL s = []) := ⟨hno, parse_no hno⟩
        clear hno hall
        go_enter Tryz.func123, Tryz.ntmps123
        go_wp2_with fail
        refine HD.out.mono ?_
        rintro e w' ⟨rfl, rfl⟩
        go_wp2_with fail
        go_ret2
        exact ⟨_, ret_vb rfl HN.out.1.symm, by rw [HN.out.2]; exact World.ownsRow_nil _ _ _ _, Below.refl _ _⟩
      · have hyes : parseB s = true := by
          have : ¬ (1 < s.size ∧ dg s 0 = 0) := fun ⟨h1, h2⟩ => hz ⟨h1, by rw [dg_in hp] at h2; omega⟩
          rw [parseB, hd]; simp; omega
        have HY : Hid (parseB s = true ∧ parseL s = trim (parts s s.size)) := ⟨hyes, by rw [parseL, hyes]; rfl⟩
        have HALL := hide hall
        have hown0 := World.ownsRow_made (base := w.heap.size) (e := 3) (size := 1) w #[] 0 (Nat.le_refl _) (by unfold maxLen; omega) rfl
        have hb0 := (Below.refl w.heap.size w).alloc (Nat.le_refl _) (.cells #[] 3)
        clear hall hyes
        go_enter Tryz.func123, Tryz.ntmps123
        go_wp2_with fail
        refine HD.out.mono ?_
        rintro e w' ⟨rfl, rfl⟩
        by_cases hz1 : 1 < s.size
        · have hz2 : ¬ (s[0].toNat : Int) = 48 := fun h => hz ⟨hz1, h⟩
          have hz3 : ((s[0].toNat : Int) == 48) = false := by simpa using hz2
          clear hz
          go_wp2_with fail
          go_loopw [4, 5] (fun v e wr => ∃ (z : Int) (acc : List Int), -9 ≤ z ∧ z ≤ s.size ∧ e = .int .i64 z ∧ wr.ownsRow w.heap.size 3 1 v acc.length (iv acc) ∧ w.heap.size ≤ wr.heap.size ∧ Below w.heap.size w wr ∧ Hid (acc ++ parts s z.toNat = parts s s.size)) (fun _ e _ => (intOf e).toNat)
          case atStart => exact ⟨s.size, [], by omega, by omega, rfl, hown0, by simp, hb0, rfl⟩
          case round =>
            clear hown0 hb0
            obtain ⟨z, acc, hz0, hzs, rfl, hown, hsz, hbl, H⟩ := hrel
            have hal : acc.length ≤ 60 := by
              have h1 := parts_len s s.size 60 (by omega)
              rw [← H.out, List.length_append] at h1
              omega
            by_cases hzp : 0 < z
            · obtain ⟨k, rfl⟩ : ∃ k : Nat, z = (k : Int) := ⟨z.toNat, by omega⟩
              rw [Int.toNat_natCast] at H
              have hkp : 0 < k := by omega
              have hks : k ≤ s.size := by omega
              clear hz0 hzs
              by_cases hk9 : (k : Int) - 9 < 0
              · have hk0 : k - 9 = 0 := by omega
                go_wp2_with fail
                go_loop [7, 8] (fun n i => ∃ j : Nat, j ≤ k - (k - 9) ∧ i = .int .i64 ((k - 9 + j : Nat) : Int) ∧ n = .int .i64 (numL s (k - 9) j)) (fun _ i => k - (intOf i).toNat)
                case atStart => exact ⟨0, Nat.zero_le _, (by rw [hk0]; rfl), rfl⟩
                case round =>
                  clear hk0
                  obtain ⟨j, hj, rfl, rfl⟩ := hrel
                  obtain ⟨hn0, hn1⟩ := numL_9 HALL.out (k - 9) j (by omega)
                  by_cases hjl : j < k - (k - 9)
                  · have hix : k - 9 + j < s.size := by omega
                    obtain ⟨hd0, hd1⟩ := dg_b HALL.out (k - 9 + j)
                    have hde := dg_in hix
                    have HV : Hid (numL s (k - 9) (j + 1) = numL s (k - 9) j * 10 + (s[k - 9 + j].toNat : Int) - 48) := by
                      show _ = _
                      rw [numL, hde]; omega
                    have hii : (((k - 9 + j : Nat) : Int)) < (k : Int) := by omega
                    rw [hde] at hd0 hd1
                    generalize numL s (k - 9) j = nv at *
                    clear hde
                    go_wp2_with fail
                    go_round
                    case rel => exact ⟨j + 1, by omega, by go_num, by rw [HV.out]⟩
                    case measure => simp [intOf]; omega
                  · obtain rfl : j = k - (k - 9) := by omega
                    have hii : ¬ (((k - 9 + (k - (k - 9)) : Nat) : Int)) < (k : Int) := by omega
                    generalize hnv : numL s (k - 9) (k - (k - 9)) = nv at *
                    have HS : Hid (acc ++ [nv] ++ parts s (((k : Int) - 9).toNat) = parts s s.size) := by
                      show _ = _
                      rw [← H.out, parts_pos s (e := k) (by omega), hnv, List.append_assoc, show ((k : Int) - 9).toNat = k - 9 by omega]; rfl
                    clear H hnv
                    go_wp2_with (at_builtin; refine wpList_append1 Tryz.sliceInt rfl _ _ rfl wr w.heap.size _ _ _ hown rfl #[.int .i64 nv] 1 rfl rfl (by simp [Value.oneCell']) (by omega) (by omega) hsz ?_; intro v' w1 hown1 hb1)
                    have hs1 := hb1.size
                    go_roundw
                    case rel => exact ⟨(k : Int) - 9, acc ++ [nv], by omega, by omega, rfl, by simpa [iv] using hown1, by omega, hbl.trans hb1, HS⟩
                    case measure => simp [intOf]; omega
              · have hk9' : ((k - 9 : Nat) : Int) = (k : Int) - 9 := by omega
                go_wp2_with fail
                go_loop [7, 8] (fun n i => ∃ j : Nat, j ≤ k - (k - 9) ∧ i = .int .i64 ((k - 9 + j : Nat) : Int) ∧ n = .int .i64 (numL s (k - 9) j)) (fun _ i => k - (intOf i).toNat)
                case atStart => exact ⟨0, Nat.zero_le _, (by rw [Nat.add_zero, hk9']), rfl⟩
                case round =>
                  obtain ⟨j, hj, rfl, rfl⟩ := hrel
                  obtain ⟨hn0, hn1⟩ := numL_9 HALL.out (k - 9) j (by omega)
                  by_cases hjl : j < k - (k - 9)
                  · have hix : k - 9 + j < s.size := by omega
                    obtain ⟨hd0, hd1⟩ := dg_b HALL.out (k - 9 + j)
                    have hde := dg_in hix
                    have HV : Hid (numL s (k - 9) (j + 1) = numL s (k - 9) j * 10 + (s[k - 9 + j].toNat : Int) - 48) := by
                      show _ = _
                      rw [numL, hde]; omega
                    have hii : (((k - 9 + j : Nat) : Int)) < (k : Int) := by omega
                    rw [hde] at hd0 hd1
                    generalize numL s (k - 9) j = nv at *
                    clear hde
                    go_wp2_with fail
                    go_round
                    case rel => exact ⟨j + 1, by omega, by go_num, by rw [HV.out]⟩
                    case measure => simp [intOf]; omega
                  · obtain rfl : j = k - (k - 9) := by omega
                    have hii : ¬ (((k - 9 + (k - (k - 9)) : Nat) : Int)) < (k : Int) := by omega
                    generalize hnv : numL s (k - 9) (k - (k - 9)) = nv at *
                    have HS : Hid (acc ++ [nv] ++ parts s (((k : Int) - 9).toNat) = parts s s.size) := by
                      show _ = _
                      rw [← H.out, parts_pos s (e := k) (by omega), hnv, List.append_assoc, show ((k : Int) - 9).toNat = k - 9 by omega]; rfl
                    clear H hnv
                    go_wp2_with (at_builtin; refine wpList_append1 Tryz.sliceInt rfl _ _ rfl wr w.heap.size _ _ _ hown rfl #[.int .i64 nv] 1 rfl rfl (by simp [Value.oneCell']) (by omega) (by omega) hsz ?_; intro v' w1 hown1 hb1)
                    have hs1 := hb1.size
                    go_roundw
                    case rel => exact ⟨(k : Int) - 9, acc ++ [nv], by omega, by omega, rfl, by simpa [iv] using hown1, by omega, hbl.trans hb1, HS⟩
                    case measure => simp [intOf]; omega
            · have HE : Hid (acc = parts s s.size) := by
                have := H.out
                rw [show z.toNat = 0 by omega, parts_zero, List.append_nil] at this
                exact this
              obtain ⟨A', c', rfl, _, _, hr⟩ := own_reads hown
              obtain ⟨_, hcc, hcm⟩ := own_nilcap' hown
              have HT := hide (spec_Trim wr wr.heap.size A' acc.length c' acc rfl hr hcc hcm)
              have HO := hide hown
              clear H hown hr hcc hcm
              go_wp2_with fail
              refine HT.out.mono ?_
              rintro e w' ⟨m, rfl, hm, ht, rfl⟩
              have HO2 := hide (own_trimQ HO.out hm ht)
              clear ht
              go_wp2_with fail
              go_ret2
              refine ⟨_, ret_vb rfl HY.out.1.symm, ?_, hbl⟩
              have := HO2.out
              rw [HY.out.2, ← HE.out]; exact this
        · clear hz
          go_wp2_with fail
          go_loopw [4, 5] (fun v e wr => ∃ (z : Int) (acc : List Int), -9 ≤ z ∧ z ≤ s.size ∧ e = .int .i64 z ∧ wr.ownsRow w.heap.size 3 1 v acc.length (iv acc) ∧ w.heap.size ≤ wr.heap.size ∧ Below w.heap.size w wr ∧ Hid (acc ++ parts s z.toNat = parts s s.size)) (fun _ e _ => (intOf e).toNat)
          case atStart => exact ⟨s.size, [], by omega, by omega, rfl, hown0, by simp, hb0, rfl⟩
          case round =>
            clear hown0 hb0
            obtain ⟨z, acc, hz0, hzs, rfl, hown, hsz, hbl, H⟩ := hrel
            have hal : acc.length ≤ 60 := by
              have h1 := parts_len s s.size 60 (by omega)
              rw [← H.out, List.length_append] at h1
              omega
            by_cases hzp : 0 < z
            · obtain ⟨k, rfl⟩ : ∃ k : Nat, z = (k : Int) := ⟨z.toNat, by omega⟩
              rw [Int.toNat_natCast] at H
              have hkp : 0 < k := by omega
              have hks : k ≤ s.size := by omega
              clear hz0 hzs
              by_cases hk9 : (k : Int) - 9 < 0
              · have hk0 : k - 9 = 0 := by omega
                go_wp2_with fail
                go_loop [7, 8] (fun n i => ∃ j : Nat, j ≤ k - (k - 9) ∧ i = .int .i64 ((k - 9 + j : Nat) : Int) ∧ n = .int .i64 (numL s (k - 9) j)) (fun _ i => k - (intOf i).toNat)
                case atStart => exact ⟨0, Nat.zero_le _, (by rw [hk0]; rfl), rfl⟩
                case round =>
                  clear hk0
                  obtain ⟨j, hj, rfl, rfl⟩ := hrel
                  obtain ⟨hn0, hn1⟩ := numL_9 HALL.out (k - 9) j (by omega)
                  by_cases hjl : j < k - (k - 9)
                  · have hix : k - 9 + j < s.size := by omega
                    obtain ⟨hd0, hd1⟩ := dg_b HALL.out (k - 9 + j)
                    have hde := dg_in hix
                    have HV : Hid (numL s (k - 9) (j + 1) = numL s (k - 9) j * 10 + (s[k - 9 + j].toNat : Int) - 48) := by
                      show _ = _
                      rw [numL, hde]; omega
                    have hii : (((k - 9 + j : Nat) : Int)) < (k : Int) := by omega
                    rw [hde] at hd0 hd1
                    generalize numL s (k - 9) j = nv at *
                    clear hde
                    go_wp2_with fail
                    go_round
                    case rel => exact ⟨j + 1, by omega, by go_num, by rw [HV.out]⟩
                    case measure => simp [intOf]; omega
                  · obtain rfl : j = k - (k - 9) := by omega
                    have hii : ¬ (((k - 9 + (k - (k - 9)) : Nat) : Int)) < (k : Int) := by omega
                    generalize hnv : numL s (k - 9) (k - (k - 9)) = nv at *
                    have HS : Hid (acc ++ [nv] ++ parts s (((k : Int) - 9).toNat) = parts s s.size) := by
                      show _ = _
                      rw [← H.out, parts_pos s (e := k) (by omega), hnv, List.append_assoc, show ((k : Int) - 9).toNat = k - 9 by omega]; rfl
                    clear H hnv
                    go_wp2_with (at_builtin; refine wpList_append1 Tryz.sliceInt rfl _ _ rfl wr w.heap.size _ _ _ hown rfl #[.int .i64 nv] 1 rfl rfl (by simp [Value.oneCell']) (by omega) (by omega) hsz ?_; intro v' w1 hown1 hb1)
                    have hs1 := hb1.size
                    go_roundw
                    case rel => exact ⟨(k : Int) - 9, acc ++ [nv], by omega, by omega, rfl, by simpa [iv] using hown1, by omega, hbl.trans hb1, HS⟩
                    case measure => simp [intOf]; omega
              · exfalso; omega
            · have HE : Hid (acc = parts s s.size) := by
                have := H.out
                rw [show z.toNat = 0 by omega, parts_zero, List.append_nil] at this
                exact this
              obtain ⟨A', c', rfl, _, _, hr⟩ := own_reads hown
              obtain ⟨_, hcc, hcm⟩ := own_nilcap' hown
              have HT := hide (spec_Trim wr wr.heap.size A' acc.length c' acc rfl hr hcc hcm)
              have HO := hide hown
              clear H hown hr hcc hcm
              go_wp2_with fail
              refine HT.out.mono ?_
              rintro e w' ⟨m, rfl, hm, ht, rfl⟩
              have HO2 := hide (own_trimQ HO.out hm ht)
              clear ht
              go_wp2_with fail
              go_ret2
              refine ⟨_, ret_vb rfl HY.out.1.symm, ?_, hbl⟩
              have := HO2.out
              rw [HY.out.2, ← HE.out]; exact this
  · have hd' : digsB s = false := by simpa using hd
    have hno : parseB s = false := by rw [parseB, hd']; rfl
    have HN : Hid (parseB s = false ∧ parseL s = []) := ⟨hno, parse_no hno⟩
    clear hno hd
    go_enter Tryz.func123, Tryz.ntmps123
    go_wp2_with fail
    refine HD.out.mono ?_
    rintro e w' ⟨rfl, rfl⟩
    go_wp2_with fail
    go_ret2
    exact ⟨_, ret_vb rfl HN.out.1.symm, by rw [HN.out.2]; exact World.ownsRow_nil _ _ _ _, Below.refl _ _⟩
end Go.Proofs.YtnbaookdeijhhaaGreatDoor
