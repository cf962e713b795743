/-
  The texts DigI, DigC, NatI12, BigI11, put together; each has its own heading below. No condition of ours.
-/
import Derived.Test.YtnbaookdeijhhaaGreatDoorPA
import Derived.Test.YtnbaookdeijhhaaGreatDoorIA
import Derived.Test.YtnbaookdeijhhaaGreatDoorBA
import Derived.Test.YtnbaookdeijhhaaGreatDoorBigQ
import Derived.Deep.CutRange
/-
  What isDigit answers.
-/

namespace Go.Proofs.YtnbaookdeijhhaaGreatDoor
open Go.RowKit
set_option linter.unusedVariables false

/-! ### the program's, rune by rune -/
theorem isDigit_yes (r : Int) (w : World) (h1 : 48 ≤ r) (h2 : r ≤ 57) :
    Calls Tryz.prog 132 #[.int .i32 r] w fun e w' => e = .returned (.bool true) ∧ w = w' := by
  go_enter Tryz.func132, Tryz.ntmps132
  go_wp2
  go_ret
  exact ⟨rfl, rfl⟩

theorem isDigit_no (r : Int) (w : World) (h : r < 48 ∨ 57 < r) :
    Calls Tryz.prog 132 #[.int .i32 r] w fun e w' => e = .returned (.bool false) ∧ w = w' := by
  rcases h with h | h
  · go_enter Tryz.func132, Tryz.ntmps132
    go_wp2
    go_ret
    exact ⟨rfl, rfl⟩
  · have h' : 48 ≤ r := by omega
    go_enter Tryz.func132, Tryz.ntmps132
    go_wp2
    go_ret
    exact ⟨ret_bool (a := decide (r ≤ 57)) (by simp; omega), rfl⟩

theorem below_iter {B : Nat} {a w : World} (h : Below B a w) (hB : B ≤ w.heap.size) (s : ByteArray) (pos : Nat) : Below B a (w.iter s pos) := h.alloc hB _
end Go.Proofs.YtnbaookdeijhhaaGreatDoor

/-
  What IsDigits answers, of the program: rune by rune; and the law's walk.
-/

namespace Go.Proofs.YtnbaookdeijhhaaGreatDoor
open Go.RowKit
set_option linter.unusedVariables false

set_option maxHeartbeats 400000 in
theorem impl_IsDigits (s : ByteArray) (w : World) (hs : s.size ≤ maxLen) :
    Calls Tryz.prog 84 #[.string s] w fun e w' => e = .returned (.bool (digsB s)) ∧ ∃ pos, w' = w.iter s pos := by
  unfold maxLen at hs
  go_enter Tryz.func84, Tryz.ntmps84
  go_wp2
  go_loopw [4] (fun _ w' => ∃ pos : Nat, w' = w.iter s pos ∧ pos ≤ s.size ∧ Hid (∀ j (h : j < s.size), j < pos → digB s[j] = true)) (fun _ w' => s.size - w'.iterPos w.heap.size)
  case atStart => exact ⟨0, rfl, Nat.zero_le _, fun j _ h => absurd h (Nat.not_lt_zero _)⟩
  case round =>
    obtain ⟨pos, rfl, hk, H⟩ := hrel
    by_cases hp : pos < s.size
    · by_cases ha : s[pos].toNat < 128
      · have hnx : ∀ ty, (Instr.next (.pointer (some ⟨w.heap.size, 0, none⟩)) true ty).run Tryz.prog (w.iter s pos) = _ := fun ty => run_next_ascii w s pos ty hp ha
        by_cases hd : 48 ≤ s[pos].toNat ∧ s[pos].toNat ≤ 57
        · have HN : Hid (∀ j (h : j < s.size), j < pos + 1 → digB s[j] = true) := fun j hj hjk => by
            by_cases e : j = pos
            · subst e; simp [digB]; omega
            · exact H.out j hj (by omega)
          clear H
          obtain ⟨hd1, hd2⟩ := hd
          go_wp2_with (go_at_call 132; refine (isDigit_yes _ _ (by omega) (by omega)).mono ?_; rintro e w' ⟨rfl, rfl⟩)
          go_roundw
          case rel => exact ⟨pos + 1, rfl, by omega, HN⟩
          case measure => simp; omega
        · have HB : Hid (digsB s = false) := digsB_bad hp (by simp [digB]; omega)
          go_wp2_with (go_at_call 132; refine (isDigit_no _ _ (by omega)).mono ?_; rintro e w' ⟨rfl, rfl⟩)
          go_ret
          exact ⟨ret_bool HB.out.symm, _, rfl⟩
      · have hnx : ∀ ty, (Instr.next (.pointer (some ⟨w.heap.size, 0, none⟩)) true ty).run Tryz.prog (w.iter s pos) = _ := fun ty => run_next_any w s pos ty hp
        have hr := (decode_high s pos hp (by omega)).1
        have HB : Hid (digsB s = false) := digsB_bad hp (by simp [digB]; omega)
        clear H
        go_wp2_with (go_at_call 132; refine (isDigit_no _ _ (by omega)).mono ?_; rintro e w' ⟨rfl, rfl⟩)
        go_ret
        exact ⟨ret_bool HB.out.symm, _, rfl⟩
    · have hnx : ∀ ty, (Instr.next (.pointer (some ⟨w.heap.size, 0, none⟩)) true ty).run Tryz.prog (w.iter s pos) = _ := fun ty => run_next_end w s pos ty hp
      by_cases h0 : 0 < s.size
      · have HB : Hid (digsB s = true) := digsB_true h0 fun i hi => H.out i hi (by omega)
        have he := nonempty_f h0
        clear H
        go_wp2
        go_ret
        exact ⟨ret_bool HB.out.symm, _, rfl⟩
      · have HB : Hid (digsB s = false) := digsB_nil (by omega)
        have he := nonempty_t (s := s) (by omega)
        clear H
        go_wp2
        go_ret
        exact ⟨ret_bool HB.out.symm, _, rfl⟩

end Go.Proofs.YtnbaookdeijhhaaGreatDoor

/-
  The program's natural numbers: contracts (12): limbOf, ParseNat.
-/



namespace Go.Proofs.YtnbaookdeijhhaaGreatDoor
open Go.RowKit
set_option linter.unusedVariables false

theorem ret_vb' {v v' : Value} {a b : Bool} (h1 : v = v') (h2 : a = b) : Ending.returned (.tuple #[v, .bool a]) = .returned (.tuple #[v', .bool b]) := by rw [h1, h2]
theorem parse_no' {s : ByteArray} (h : parseB s = false) : parseL s = [] := by rw [parseL, h]; rfl
set_option maxHeartbeats 800000 in
theorem impl_limbOf (t : ByteArray) (w : World) (ht : t.size ≤ 9) (hd : ∀ i (h : i < t.size), digB t[i] = true) :
    Calls Tryz.prog 85 #[.string t] w fun e w' => e = .returned (.int .i64 (numL t 0 t.size)) ∧ ∃ pos, w' = w.iter t pos := by
  have HALL := hide hd
  clear hd
  go_enter Tryz.func85, Tryz.ntmps85
  go_wp2
  go_loopw [3] (fun n w' => ∃ pos : Nat, w' = w.iter t pos ∧ pos ≤ t.size ∧ n = .int .i64 (numL t 0 pos)) (fun _ w' => t.size - w'.iterPos w.heap.size)
  case atStart => exact ⟨0, rfl, Nat.zero_le _, rfl⟩
  case round =>
    obtain ⟨pos, rfl, hk, rfl⟩ := hrel
    obtain ⟨hn0, hn1⟩ := numL_9 HALL.out 0 pos (by omega)
    by_cases hp : pos < t.size
    · have hdb := HALL.out pos hp
      simp only [digB, decide_eq_true_eq] at hdb
      obtain ⟨hd1, hd2⟩ := hdb
      have hnx : ∀ ty, (Instr.next (.pointer (some ⟨w.heap.size, 0, none⟩)) true ty).run Tryz.prog (w.iter t pos) = _ := fun ty => run_next_ascii w t pos ty hp (by omega)
      have HV : Hid (numL t 0 (pos + 1) = numL t 0 pos * 10 + ((t[pos].toNat : Int) - 48)) := by
        show _ = _
        rw [numL, Nat.zero_add, dg_in hp]
      generalize numL t 0 pos = nv at *
      go_wp2
      go_roundw
      case rel => exact ⟨pos + 1, rfl, by omega, by rw [HV.out]⟩
      case measure => simp; omega
    · have hnx : ∀ ty, (Instr.next (.pointer (some ⟨w.heap.size, 0, none⟩)) true ty).run Tryz.prog (w.iter t pos) = _ := fun ty => run_next_end w t pos ty hp
      have hpe : pos = t.size := by omega
      have HE := hide hpe
      clear hpe
      go_wp2
      go_ret
      exact ⟨ret_int (by rw [HE.out]), _, rfl⟩

theorem digs_cut {s : ByteArray} (hd : ∀ i (h : i < s.size), digB s[i] = true) (a b : Nat) (hb : b ≤ s.size) : ∀ i (h : i < (s.extract a b).size), digB (s.extract a b)[i] = true := fun i h => by
  rw [ByteArray.getElem_extract]
  exact hd _ _
theorem zero_text {s : ByteArray} (h0 : 0 < s.size) (h1 : s.size ≤ 1) (hz : (s[0].toNat : Int) = 48) : s = ⟨#[48]⟩ := by
  apply ByteArray.ext
  apply Array.ext
  · show s.size = 1; omega
  · intro i k1 k2
    have e : i = 0 := by
      have : i < s.size := k1
      omega
    subst e
    have : s[0] = 48 := by
      apply UInt8.toNat_inj.1
      show s[0].toNat = 48
      omega
    exact this
set_option maxRecDepth 100000 in
set_option maxHeartbeats 3200000 in
theorem impl_ParseNat (w : World) (B : Nat) (hB : B ≤ w.heap.size) (s : ByteArray) (hs : s.size ≤ 1048576) :
    Calls Tryz.prog 41 #[.string s] w fun e w' => ∃ v, e = .returned (.tuple #[v, .bool (parseB s)]) ∧ Own w' w.heap.size w'.heap.size 3 v (parseL s).length (iv (parseL s)) ∧ Below w.heap.size w w' := by
  have HD := hide (impl_IsDigits s w (by unfold maxLen; omega))
  by_cases hz0 : s = ⟨#[48]⟩
  · have HY : Hid (parseB ⟨#[48]⟩ = true ∧ parseL ⟨#[48]⟩ = []) := by
      have hb : parseB ⟨#[48]⟩ = true := by
        have h1 : digsB ⟨#[48]⟩ = true := by
          refine digsB_true (by decide) ?_
          intro i hi
          have : i = 0 := by have : i < 1 := hi; omega
          subst this; exact (by decide : digB (48 : UInt8) = true)
        rw [parseB, h1]; rfl
      refine ⟨hb, ?_⟩
      rw [parseL, hb]
      have : parts ⟨#[48]⟩ (ByteArray.size ⟨#[48]⟩) = [0] := by
        show parts ⟨#[48]⟩ 1 = [0]
        rw [parts_pos _ (by omega), show 1 - 9 = 0 by rfl, parts_zero]
        rfl
      rw [if_pos rfl, this]; rfl
    subst hz0
    go_enter Tryz.func41, Tryz.ntmps41
    go_wp2_with fail
    go_ret2
    exact ⟨_, ret_vb' rfl HY.out.1.symm, by rw [HY.out.2]; exact Own.nil _ _ _ _, Below.refl _ _⟩
  · have hzs : (s.toList == [48]) = false := by
      have := str_ne hz0
      rwa [ByteArray.toList_eq ⟨#[48]⟩] at this
    by_cases hd : digsB s = true
    · obtain ⟨hp, hall⟩ := digs_all hd
      by_cases hz : (s[0].toNat : Int) = 48
      · have hno : parseB s = false := by
          have h1 : dg s 0 = 0 := by rw [dg_in hp]; omega
          have h2 : 1 < s.size := by
            rcases Nat.lt_or_ge 1 s.size with h | h
            · exact h
            · exact absurd (zero_text hp h hz) hz0
          rw [parseB, hd, h1]; simp; omega
        have HN : Hid (parseB s = false ∧ parseL s = []) := ⟨hno, parse_no' hno⟩
        have hzb : ((s[0].toNat : Int) == 48) = true := by simp [hz]
        clear hno hall hz0
        go_enter Tryz.func41, Tryz.ntmps41
        go_wp2_with fail
        refine HD.out.mono ?_
        rintro e w' ⟨rfl, pos, rfl⟩
        go_wp2_with fail
        go_ret2
        exact ⟨_, ret_vb' rfl HN.out.1.symm, by rw [HN.out.2]; exact Own.nil _ _ _ _, below_iter (Below.refl _ _) (Nat.le_refl _) _ _⟩
      · have hzb : ((s[0].toNat : Int) == 48) = false := by simpa using hz
        by_cases hbig : 540 < s.size
        · have hno : parseB s = false := by rw [parseB, hd]; simp; omega
          have HN : Hid (parseB s = false ∧ parseL s = []) := ⟨hno, parse_no' hno⟩
          clear hno hall hz0 hz
          go_enter Tryz.func41, Tryz.ntmps41
          go_wp2_with fail
          refine HD.out.mono ?_
          rintro e w' ⟨rfl, pos, rfl⟩
          go_wp2_with fail
          go_ret2
          exact ⟨_, ret_vb' rfl HN.out.1.symm, by rw [HN.out.2]; exact Own.nil _ _ _ _, below_iter (Below.refl _ _) (Nat.le_refl _) _ _⟩
        · have hyes : parseB s = true := by
            have : dg s 0 ≠ 0 := by rw [dg_in hp]; omega
            rw [parseB, hd]; simp; omega
          have HY : Hid (parseB s = true ∧ parseL s = trim (parts s s.size)) := ⟨hyes, by rw [parseL, hyes]; rfl⟩
          have HALL := hide hall
          clear hall hyes hz0 hz
          go_enter Tryz.func41, Tryz.ntmps41
          go_wp2_with fail
          refine HD.out.mono ?_
          rintro e w' ⟨rfl, pos, rfl⟩
          go_wp2_with fail
          go_loopw [4, 5] (fun v e wr => ∃ (z : Int) (acc : List Int), -9 ≤ z ∧ z ≤ s.size ∧ e = .int .i64 z ∧ wr.ownsRow w.heap.size 3 1 v acc.length (iv acc) ∧ w.heap.size ≤ wr.heap.size ∧ Below w.heap.size w wr ∧ Hid (acc ++ parts s z.toNat = parts s s.size)) (fun _ e _ => (intOf e).toNat)
          case atStart => exact ⟨s.size, [], by omega, by omega, rfl, World.ownsRow_nil _ _ _ _, (below_iter (Below.refl _ _) (Nat.le_refl _) s pos).size, below_iter (Below.refl _ _) (Nat.le_refl _) _ _, rfl⟩
          case round =>
            obtain ⟨z, acc, hz0, hzs', rfl, hown, hsz, hbl, H⟩ := hrel
            have hal : acc.length ≤ 60 := by
              have h1 := parts_len s s.size 60 (by omega)
              rw [← H.out, List.length_append] at h1
              omega
            by_cases hzp : 0 < z
            · obtain ⟨k, rfl⟩ : ∃ k : Nat, z = (k : Int) := ⟨z.toNat, by omega⟩
              rw [Int.toNat_natCast] at H
              have hkp : 0 < k := by omega
              have hks : k ≤ s.size := by omega
              have hL := impl_limbOf (s.extract (k - 9) k) wr (by rw [ByteArray.size_extract]; omega) (digs_cut HALL.out _ _ hks)
              have hsz2 : (s.extract (k - 9) k).size = k - (k - 9) := by rw [ByteArray.size_extract]; omega
              rw [hsz2, numL_cut s (k - 9) k (k - (k - 9)) hks (by omega)] at hL
              obtain ⟨hn0, hn1⟩ := numL_9 HALL.out (k - 9) (k - (k - 9)) (by omega)
              generalize hnv : numL s (k - 9) (k - (k - 9)) = nv at *
              have HS : Hid (acc ++ [nv] ++ parts s (((k : Int) - 9).toNat) = parts s s.size) := by
                show _ = _
                rw [← H.out, parts_pos s (e := k) (by omega), hnv, List.append_assoc, show ((k : Int) - 9).toNat = k - 9 by omega]; rfl
              have HL := hide hL
              clear hL hsz2 hnv H hz0 hzs'
              by_cases hk9 : (k : Int) - 9 ≤ 0
              · have hk0 : k - 9 = 0 := by omega
                rw [hk0] at HL
                clear hk0
                go_wp2_with fail
                refine HL.out.mono ?_
                rintro e w' ⟨rfl, p, rfl⟩
                have hb2 := below_iter (Below.refl wr.heap.size wr) (Nat.le_refl _) (s.extract 0 k) p
                have hown2 := own_grown hown hb2
                have hbl2 := hbl.trans (hb2.mono hsz)
                have hs2 := hb2.size
                generalize wr.iter (s.extract 0 k) p = w2 at *
                clear hb2 hown hbl HL
                go_wp2_with (at_builtin; refine wpList_append1 Tryz.sliceInt rfl _ _ rfl w2 w.heap.size _ _ _ hown2 rfl #[.int .i64 nv] 1 rfl rfl (by simp [Value.oneCell']) (by omega) (by omega) (by omega) ?_; intro v' w1 hown1 hb1)
                have hs1 := hb1.size
                go_roundw
                case rel => exact ⟨(k : Int) - 9, acc ++ [nv], by omega, by omega, rfl, by simpa [iv] using hown1, by omega, hbl2.trans hb1, HS⟩
                case measure => simp [intOf]; omega
              · have hk9' : 0 < (k : Int) - 9 := by omega
                go_wp2_with fail
                refine HL.out.mono ?_
                rintro e w' ⟨rfl, p, rfl⟩
                have hb2 := below_iter (Below.refl wr.heap.size wr) (Nat.le_refl _) (s.extract (k - 9) k) p
                have hown2 := own_grown hown hb2
                have hbl2 := hbl.trans (hb2.mono hsz)
                have hs2 := hb2.size
                generalize wr.iter (s.extract (k - 9) k) p = w2 at *
                clear hb2 hown hbl HL
                go_wp2_with (at_builtin; refine wpList_append1 Tryz.sliceInt rfl _ _ rfl w2 w.heap.size _ _ _ hown2 rfl #[.int .i64 nv] 1 rfl rfl (by simp [Value.oneCell']) (by omega) (by omega) (by omega) ?_; intro v' w1 hown1 hb1)
                have hs1 := hb1.size
                go_roundw
                case rel => exact ⟨(k : Int) - 9, acc ++ [nv], by omega, by omega, rfl, by simpa [iv] using hown1, by omega, hbl2.trans hb1, HS⟩
                case measure => simp [intOf]; omega
            · have HE : Hid (acc = parts s s.size) := by
                have := H.out
                rw [show z.toNat = 0 by omega, parts_zero, List.append_nil] at this
                exact this
              obtain ⟨A', c', rfl, _, _, hr⟩ := own_reads hown
              have hcc : acc.length ≤ c' ∧ c' ≤ maxLen := by
                rcases hown.2 with ⟨h1, h2⟩ | ⟨g, c2, cur, hv, _, _, hnc, hcm, _⟩
                · injection h1 with e1 e2 e3; subst e3; exact ⟨by omega, by unfold maxLen; omega⟩
                · injection hv with e1 e2 e3; subst e3; exact ⟨hnc, hcm⟩
              have HT := hide (impl_cutZeros wr w.heap.size wr.heap.size A' acc.length c' acc (Own.of_row hown (Nat.le_refl _)) hcc.1 hcc.2)
              clear H hown hr hcc
              go_wp2_with fail
              refine HT.out.mono ?_
              rintro e w' ⟨v, rfl, o, _, rfl⟩
              have HO2 := hide o
              clear o HT
              go_wp2_with fail
              go_ret2
              refine ⟨_, ret_vb' rfl HY.out.1.symm, ?_, hbl⟩
              have := HO2.out
              rw [HY.out.2, ← HE.out]; exact this
    · have hd' : digsB s = false := by simpa using hd
      have hno : parseB s = false := by rw [parseB, hd']; rfl
      have HN : Hid (parseB s = false ∧ parseL s = []) := ⟨hno, parse_no' hno⟩
      clear hno hd hz0
      go_enter Tryz.func41, Tryz.ntmps41
      go_wp2_with fail
      refine HD.out.mono ?_
      rintro e w' ⟨rfl, pos, rfl⟩
      go_wp2_with fail
      go_ret2
      exact ⟨_, ret_vb' rfl HN.out.1.symm, by rw [HN.out.2]; exact Own.nil _ _ _ _, below_iter (Below.refl _ _) (Nat.le_refl _) _ _⟩
end Go.Proofs.YtnbaookdeijhhaaGreatDoor

/-
  The program's big integers: contracts (11): Parse.
-/




namespace Go.Proofs.YtnbaookdeijhhaaGreatDoor
open Go.RowKit
set_option linter.unusedVariables false
set_option maxHeartbeats 800000 in
theorem lib_HasPrefix (w : World) (s : ByteArray) (hm : s.size ≤ 1048576) :
    Calls Tryz.prog 172 #[.string s, .string minusB] w fun e w' => e = .returned (.bool (signB s)) ∧ w = w' := by
  have hms : minusB.size = 1 := rfl
  by_cases h0 : 0 < s.size
  · have h1 : (1 : Int) ≤ (s.size : Int) := by omega
    have hc := hide (cut_minus h0)
    go_enter Tryz.func172, Tryz.ntmps172
    go_wp2_with fail
    rw [hc.out]
    go_ret
    exact ⟨rfl, rfl⟩
  · have h1 : ¬ (1 : Int) ≤ (s.size : Int) := by omega
    have hv : signB s = false := by rw [signB, dif_neg h0]
    rw [hv]
    go_enter Tryz.func172, Tryz.ntmps172
    go_wp2_with fail
    go_ret
    exact ⟨rfl, rfl⟩
set_option maxHeartbeats 800000 in
theorem lib_CutPrefix0 (w : World) (s : ByteArray) (hm : s.size ≤ 1048576) :
    Calls Tryz.prog 131 #[.string s, .string minusB] w fun e w' => e = .returned (.tuple #[.string (restB s), .bool (signB s)]) ∧ w = w' := by
  have hms : minusB.size = 1 := rfl
  by_cases hv : signB s = true
  · have h0 := signB_pos hv
    have h1 : (1 : Int) ≤ (s.size : Int) := by omega
    have hr : restB s = s.extract 1 s.size := by rw [restB, if_pos hv]
    have HC := hide (lib_HasPrefix w s hm)
    rw [hv] at HC
    rw [hr, hv]
    clear hr
    go_enter Tryz.func131, Tryz.ntmps131
    go_wp2_with fail
    refine HC.out.mono ?_
    rintro e w1 ⟨rfl, rfl⟩
    go_wp2_with fail
    go_ret2
    exact ⟨rfl, rfl⟩
  · have hv : signB s = false := by simpa using hv
    have hr : restB s = s := by rw [restB, hv]; rfl
    have HC := hide (lib_HasPrefix w s hm)
    rw [hv] at HC
    rw [hr, hv]
    clear hr
    go_enter Tryz.func131, Tryz.ntmps131
    go_wp2_with fail
    refine HC.out.mono ?_
    rintro e w1 ⟨rfl, rfl⟩
    go_wp2_with fail
    go_ret2
    exact ⟨rfl, rfl⟩
set_option maxHeartbeats 800000 in
theorem lib_CutPrefix (w : World) (s : ByteArray) (hm : s.size ≤ 1048576) :
    Calls Tryz.prog 82 #[.string s, .string minusB] w fun e w' => e = .returned (.tuple #[.string (restB s), .bool (signB s)]) ∧ w = w' := by
  go_enter Tryz.func82, Tryz.ntmps82
  go_wp2_with fail
  refine (lib_CutPrefix0 w s hm).mono ?_
  rintro e w1 ⟨rfl, rfl⟩
  go_wp2_with fail
  go_ret2
  exact ⟨rfl, rfl⟩
set_option maxHeartbeats 1600000 in
theorem impl_ParseBigInt (w : World) (B : Nat) (hB : B ≤ w.heap.size) (s : ByteArray) (hm : s.size ≤ 1048576) :
    Calls Tryz.prog 40 #[.string s] w fun e w' => ∃ v, e = .returned (.tuple #[.agg #[.bool (parseZ s).1, v], .bool (parseZB s)]) ∧ Own w' w.heap.size w'.heap.size 3 v (parseZ s).2.length (iv (parseZ s).2) ∧ Below w.heap.size w w' := by
  have hb0 := below_new w (.cells #[.bool false, .slice none 0 0] 25)
  have k0 := Box.last w 25 #[.bool false, .slice none 0 0] rfl
  have hs0 := alloc_size w (.cells #[.bool false, .slice none 0 0] 25)
  have hrs : (restB s).size ≤ 1048576 := Nat.le_trans (restB_size s) hm
  have HL := hide (lib_CutPrefix (w.alloc (.cells #[.bool false, .slice none 0 0] 25)) s hm)
  have HN := hide (fun (h : parseZB s = false) => (by rw [parseZ, h]; rfl : parseZ s = noZ))
  have HY := hide (fun (h : parseZB s = true) => (by rw [parseZ, if_pos h] : parseZ s = (signB s, parseL (restB s))))
  have HG := hide (fun (h : parseB (restB s) = true) => parseZ_big h)
  have HF := hide (fun (h : parseB (restB s) = false) => (by rw [parseZB, h]; rfl : parseZB s = false))
  generalize parseZ s = Z at HN HY ⊢
  generalize parseZB s = zb at HN HY HG HF ⊢
  go_enter Tryz.func40, Tryz.ntmps40
  go_wp2_with fail
  refine HL.out.mono ?_
  rintro e w1 ⟨rfl, rfl⟩
  clear HL
  go_wp2_with fail
  refine (impl_ParseNat _ _ (Nat.le_refl _) (restB s) hrs).mono ?_
  rintro e w1 ⟨v1, rfl, o1, hb1⟩
  obtain ⟨A1, c1, rfl⟩ := o1.form
  have hb1' := below_then hb0 hb1
  have hs1 := hb1.size
  have k1 := k0.below hb1 (by omega)
  by_cases hp : parseB (restB s) = true
  · have hbig := HG.out hp
    clear HG HF
    have hl60 : (parseL (restB s)).length ≤ 60 := ((natB_iff _).1 (natB_parse hp)).2
    have hlim : Limbs (parseL (restB s)) := ((natB_iff _).1 (natB_parse hp)).1.1
    rw [hp]
    have R1 := RdI.of_own o1 (by omega) hlim
    have R2 := R1.at_ (R1.2.1.alloc (Nat.le_refl _) (.cells #[.bool (signB s), .slice A1 (parseL (restB s)).length c1] 25))
    have hbW := below_new w1 (.cells #[.bool (signB s), .slice A1 (parseL (restB s)).length c1] 25)
    have kW := Box.last w1 25 #[.bool (signB s), .slice A1 (parseL (restB s)).length c1] rfl
    have HC := hide (impl_BigIntOk _ w1.heap.size hbW.size (signB s) A1 _ c1 _ R2)
    rw [hbig] at HC
    clear hp hbig R1 R2 hlim hb0 k0 hrs
    have HL := hide hl60
    clear hl60
    generalize parseL (restB s) = L at *
    go_wp2_with fail
    refine HC.out.mono ?_
    rintro e w2 ⟨rfl, hb2⟩
    have hb2' := below_then (below_alloc hb1' _) hb2
    have r2 := (k1.alloc _).below hb2 (k1.alloc _).lt
    have kx2 := kW.below hb2 kW.lt
    have o2 := (o1.below hbW (Nat.le_refl _)).below hb2 hbW.size
    have hs2 := hb2.size
    rw [alloc_size] at hs2
    have d0 := kx2.cell 0
    have d1 := kx2.cell 1
    have z0 := r2.frozen 0
    have z1 := r2.frozen 1
    have t0 := r2.cell 0
    have t1 := r2.cell 1
    simp only [List.getElem?_toArray, List.getElem?_cons_zero, List.getElem?_cons_succ] at d0 d1 t0 t1
    clear kx2 kW hbW hb2 hb1' hb1 o1 k1 HC
    cases zb
    · have hz := HN.out rfl
      subst hz
      have HO := hide (ret_big0 (x := .bool false) (v := .slice none 0 0) r2 hb2' (Nat.le_refl _))
      clear r2 hb2' o2 HN HY
      go_wp2_with fail
      refine bodyPost_ret (results_cell_tmp rfl _ _ w.heap.size _ #[.bool false, .slice none 0 0] (0, 0) _ rfl HO.out.1 Tryz.underlying25 rfl Tryz.sizeBig) rfl ?_
      exact ⟨_, rfl, Own.nil _ _ _ _, HO.out.2⟩
    · have hz := HY.out rfl
      subst hz
      have HO := hide (ret_big (x := .bool (signB s)) r2 o2 hb2' (Nat.le_refl _) (by omega) (by omega))
      clear r2 hb2' o2 HN HY
      go_wp2_with fail
      refine bodyPost_ret (results_cell_tmp rfl _ _ w.heap.size _ #[.bool (signB s), .slice A1 L.length c1] (0, 0) _ rfl HO.out.1 Tryz.underlying25 rfl Tryz.sizeBig) rfl ?_
      exact ⟨_, rfl, HO.out.2.1, HO.out.2.2⟩
  · have hp : parseB (restB s) = false := by simpa using hp
    have hz0 := HF.out hp
    subst hz0
    have hz := HN.out rfl
    subst hz
    rw [hp]
    clear HG HF
    obtain ⟨W2, hW2⟩ : ∃ W2, W2 = w1.alloc (.cells #[.bool (signB s), .slice A1 (parseL (restB s)).length c1] 25) := ⟨_, rfl⟩
    have r2 : Box W2 w.heap.size 25 #[.bool false, .slice none 0 0] := by rw [hW2]; exact k1.alloc _
    have hb2' : Below w.heap.size w W2 := by rw [hW2]; exact below_alloc hb1' _
    have z0 := r2.frozen 0
    have z1 := r2.frozen 1
    have t0 := r2.cell 0
    have t1 := r2.cell 1
    simp only [List.getElem?_toArray, List.getElem?_cons_zero, List.getElem?_cons_succ] at t0 t1
    have HO := hide (ret_big0 (x := .bool false) (v := .slice none 0 0) r2 hb2' (Nat.le_refl _))
    clear r2 hb2' HN HY hp hb0 k0 k1 o1 hb1 hb1'
    go_upto_region 5 with fail
    rw [← hW2]
    clear hW2
    go_wp2_with fail
    refine bodyPost_ret (results_cell_tmp rfl _ _ w.heap.size _ #[.bool false, .slice none 0 0] (0, 0) _ rfl HO.out.1 Tryz.underlying25 rfl Tryz.sizeBig) rfl ?_
    exact ⟨_, rfl, Own.nil _ _ _ _, HO.out.2⟩
end Go.Proofs.YtnbaookdeijhhaaGreatDoor
