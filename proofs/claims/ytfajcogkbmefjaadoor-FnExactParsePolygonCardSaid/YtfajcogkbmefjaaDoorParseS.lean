/-
  What ParseInt answers, of the reference: a walk (contract) over its translation.
-/
import Derived.Test.YtfajcogkbmefjaaDoorFmtI
import Derived.Test.YtfajcogkbmefjaaDoorItoa
import Derived.Test.YtfajcogkbmefjaaDoorDigS
namespace Go.Proofs.YtfajcogkbmefjaaDoor
open Go.RowKit
set_option linter.unusedVariables false

theorem ret_parse {n m : Int} {a b : Bool} (h1 : n = m) (h2 : a = b) : Ending.returned (.tuple #[.int .i64 n, .bool a]) = .returned (.tuple #[.int .i64 m, .bool b]) := by rw [h1, h2]
/-- what s is, if it is an int's text: the digits t behind a sign or none -/
def View (s t : ByteArray) (neg : Bool) : Prop := ∀ n : Int, -9223372036854775808 ≤ n → n ≤ 9223372036854775807 → itoaB n = s → (neg = true ↔ n < 0) ∧ t.data.toList = Lib.decDigits n.natAbs
theorem itoaB_shape (n : Int) : (n < 0 ∧ (itoaB n).data.toList = 45 :: Lib.decDigits n.natAbs) ∨ (0 ≤ n ∧ (itoaB n).data.toList = Lib.decDigits n.natAbs) := by
  rw [itoaB_data]
  by_cases h : n < 0
  · exact .inl ⟨h, by rw [Lib.itoa, if_pos h]⟩
  · refine .inr ⟨by omega, ?_⟩
    rw [Lib.itoa, if_neg h]
    congr 1; omega
theorem head_of {s : ByteArray} (h : 0 < s.size) : s.data.toList.head? = some s[0] := by
  rw [List.head?_eq_getElem?]
  have h' : 0 < s.data.toList.length := by rw [ba_size]; exact h
  rw [List.getElem?_eq_getElem h']; rfl
theorem view_neg {s : ByteArray} (h0 : 0 < s.size) (h : s[0].toNat = 45) : View s (s.extract 1 s.size) true := by
  intro n h1 h2 e
  subst e
  have hh := head_of h0
  rcases itoaB_shape n with ⟨hn, hd⟩ | ⟨hn, hd⟩
  · refine ⟨by simp [hn], ?_⟩
    have : ((itoaB n).extract 1 (itoaB n).size).data.toList = (itoaB n).data.toList.drop 1 := by
      rw [ByteArray.data_extract, Array.toList_extract, List.extract_eq_take_drop]
      exact List.take_of_length_le (by rw [List.length_drop, ba_size]; exact Nat.le_refl _)
    rw [this, hd]; rfl
  · rw [hd] at hh
    have hm : (itoaB n)[0] ∈ Lib.decDigits n.natAbs := List.mem_of_mem_head? hh
    have := dec_digit _ _ hm
    omega
theorem view_pos {s : ByteArray} (h : ∀ h0 : 0 < s.size, s[0].toNat ≠ 45) : View s s false := by
  intro n h1 h2 e
  subst e
  rcases itoaB_shape n with ⟨hn, hd⟩ | ⟨hn, hd⟩
  · have h0 : 0 < (itoaB n).size := by rw [← ba_size, hd]; simp
    have hh := head_of h0
    rw [hd] at hh
    simp at hh
    exact absurd (by rw [← hh]; rfl) (h h0)
  · exact ⟨by simp; omega, hd⟩
theorem view_digs {s t : ByteArray} {neg : Bool} (V : View s t neg) (h : digsB t = false) : NoInt s := fun n h1 h2 e => by
  have hd := (V n h1 h2 e).2
  have hs : 0 < t.size := by rw [← ba_size, hd]; exact dec_pos _
  rw [digsB_true hs] at h
  · cases h
  · intro i hi
    have hi' : i < t.data.toList.length := by rw [ba_size]; exact hi
    have hm : t[i] ∈ Lib.decDigits n.natAbs := by rw [← hd]; exact List.getElem_mem hi'
    have := dec_digit _ _ hm
    simp [digB]; omega
theorem view_len {s t : ByteArray} {neg : Bool} (V : View s t neg) (h : 19 < t.size) : NoInt s := fun n h1 h2 e => by
  have hd := (V n h1 h2 e).2
  have := dec_len19 (k := n.natAbs) (by omega)
  rw [← hd, ba_size] at this
  omega
/-- the value of the first k digits -/
def dv (t : ByteArray) (k : Nat) : Nat := dval (t.data.toList.take k)
theorem dv_step {t : ByteArray} {k : Nat} (h : k < t.size) : dv t (k + 1) = dv t k * 10 + (t[k].toNat - 48) := by
  have h' : k < t.data.toList.length := by rw [ba_size]; exact h
  rw [dv, List.take_succ_eq_append_getElem h', dval_snoc]; rfl
theorem view_val {s t : ByteArray} {neg : Bool} (V : View s t neg) {k : Nat} (h : 9223372036854775808 < dv t k) : NoInt s := fun n h1 h2 e => by
  have hd := (V n h1 h2 e).2
  have := dval_take_le t.data.toList k
  rw [hd, dval_dec] at this
  rw [dv, hd] at h
  omega
theorem view_all {s t : ByteArray} {neg : Bool} (V : View s t neg) {n : Int} (h1 : -9223372036854775808 ≤ n) (h2 : n ≤ 9223372036854775807) (e : itoaB n = s) : (neg = true ↔ n < 0) ∧ n.natAbs = dv t t.size := by
  obtain ⟨a, b⟩ := V n h1 h2 e
  refine ⟨a, ?_⟩
  rw [dv, List.take_of_length_le (by rw [ba_size]; exact Nat.le_refl _), b, dval_dec]

theorem tdq (D d : Nat) (hd : d ≤ 9) : (-(D : Int) < (-9223372036854775808 + (d : Int)).tdiv 10) ↔ 9223372036854775808 < D * 10 + d := by
  have e : (-9223372036854775808 + (d : Int)).tdiv 10 = -(((9223372036854775808 - d) / 10 : Nat) : Int) := by
    rw [show (-9223372036854775808 + (d : Int)) = -((9223372036854775808 - d : Nat) : Int) by omega, Int.neg_tdiv]
    rfl
  rw [e]
  omega
theorem dig_of {t : ByteArray} (h : digsB t = true) {k : Nat} (hk : k < t.size) : 48 ≤ t[k].toNat ∧ t[k].toNat ≤ 57 := by
  simp only [digsB, decide_eq_true_eq] at h
  have := h.2 k hk
  simpa [digB] using this

set_option maxHeartbeats 1600000 in
theorem spec_ParseInt_neg (s : ByteArray) (w : World) (hs : s.size ≤ 1048576) (h0 : 0 < s.size) (h45 : ((s[0].toNat : Int) == 45) = true) :
    Calls Tryd.prog 34 #[.string s] w fun e w' => e = .returned (.tuple #[.int .i64 (pval s), .bool (pok s)]) ∧ Below w.heap.size w w' := by
  have HV := hide (view_neg h0 (by have := beq_iff_eq.1 h45; omega))
  have hts : (s.extract 1 s.size).size ≤ 1048576 := by rw [ByteArray.size_extract]; omega
  go_enter Tryd.func34, Tryd.ntmps34
  go_wp2_with fail
  generalize s.extract 1 s.size = t at *
  refine (spec_IsDigits t w (by unfold maxLen; omega)).mono ?_
  rintro e w' ⟨rfl, rfl⟩
  by_cases hd : digsB t = true
  · by_cases h19 : 19 < t.size
    · have HP := hide (parse_none (view_len HV.out h19))
      go_wp2
      go_ret2
      exact ⟨ret_parse HP.out.2.symm HP.out.1.symm, Below.refl _ _⟩
    · have h19' : t.size ≤ 19 := by omega
      clear h19
      go_wp2
      go_loop [6, 7] (fun q i => ∃ k : Nat, k ≤ t.size ∧ i = .int .i64 k ∧ q = .int .i64 (-(dv t k : Int)) ∧ dv t k ≤ 9223372036854775808) (fun _ i => t.size - (intOf i).toNat)
      case atStart => exact ⟨0, Nat.zero_le _, rfl, rfl, by rw [show dv t 0 = 0 from rfl]; omega⟩
      case round =>
        obtain ⟨k, hk, rfl, rfl, hD⟩ := hrel
        by_cases hlt : k < t.size
        · obtain ⟨hd1, hd2⟩ := dig_of hd hlt
          have hst := hide (dv_step hlt)
          have hq0 := tdq (dv t k) (t[k].toNat - 48) (by omega)
          rw [show ((t[k].toNat - 48 : Nat) : Int) = (t[k].toNat : Int) - 48 by omega] at hq0
          by_cases hb : dv t k * 10 + t[k].toNat ≤ 9223372036854775856
          · have hq : decide (-(dv t k : Int) < (-9223372036854775808 + ((t[k].toNat : Int) - 48)).tdiv 10) = false := decide_eq_false (by rw [hq0]; omega)
            clear hq0
            generalize dv t k = D at *
            go_wp2
            go_round
            case rel => exact ⟨k + 1, by omega, by go_num, by rw [hst.out]; go_num, by rw [hst.out]; omega⟩
            case measure => simp [intOf]; omega
          · have hq : decide (-(dv t k : Int) < (-9223372036854775808 + ((t[k].toNat : Int) - 48)).tdiv 10) = true := decide_eq_true (by rw [hq0]; omega)
            have HP := hide (parse_none (view_val HV.out (k := k + 1) (by rw [hst.out]; omega)))
            clear hq0 hb
            generalize dv t k = D at *
            go_wp2
            go_ret2
            exact ⟨ret_parse HP.out.2.symm HP.out.1.symm, Below.refl _ _⟩
        · obtain rfl : k = t.size := by omega
          have HA := hide (fun n h1 h2 e => view_all HV.out (n := n) h1 h2 e)
          generalize dv t t.size = D at *
          clear hlt hk
          have hwf : (Lit.int .i64 (-(D : Int))).wf = true := WalkArith.wf_i64 (by omega)
          by_cases he : itoaB (-(D : Int)) = s
          · have HP := hide (parse_some (n := -(D : Int)) (by omega) (by omega) he)
            have hq := str_eq he
            clear he
            go_wp2_with fail
            refine (spec_FormatInt (-(D : Int)) w hwf).mono ?_
            rintro e w1 ⟨rfl, hb1⟩
            go_wp2
            go_ret2
            exact ⟨ret_parse HP.out.2.symm HP.out.1.symm, hb1⟩
          · have HP := hide (parse_none (s := s) fun n h1 h2 e => he (by
              obtain ⟨a, b⟩ := HA.out n h1 h2 e
              have hn : n < 0 := a.1 rfl
              rw [show -(D : Int) = n by omega]; exact e))
            have hq := str_ne he
            clear he
            go_wp2_with fail
            refine (spec_FormatInt (-(D : Int)) w hwf).mono ?_
            rintro e w1 ⟨rfl, hb1⟩
            go_wp2
            go_ret2
            exact ⟨ret_parse HP.out.2.symm HP.out.1.symm, hb1⟩
  · have hdf : digsB t = false := by simpa using hd
    have HP := hide (parse_none (view_digs HV.out hdf))
    clear hd
    go_wp2
    go_ret2
    exact ⟨ret_parse HP.out.2.symm HP.out.1.symm, Below.refl _ _⟩

set_option maxHeartbeats 1600000 in
theorem spec_ParseInt_pos (s : ByteArray) (w : World) (hs : s.size ≤ 1048576) (h0 : 0 < s.size) (h45 : ((s[0].toNat : Int) == 45) = false) :
    Calls Tryd.prog 34 #[.string s] w fun e w' => e = .returned (.tuple #[.int .i64 (pval s), .bool (pok s)]) ∧ Below w.heap.size w w' := by
  have HV := hide (view_pos (s := s) fun h => by have := beq_eq_false_iff_ne.1 h45; omega)
  have hts : s.size ≤ 1048576 := hs
  go_enter Tryd.func34, Tryd.ntmps34
  go_wp2_with fail
  refine (spec_IsDigits s w (by unfold maxLen; omega)).mono ?_
  rintro e w' ⟨rfl, rfl⟩
  by_cases hd : digsB s = true
  · by_cases h19 : 19 < s.size
    · have HP := hide (parse_none (view_len HV.out h19))
      go_wp2
      go_ret2
      exact ⟨ret_parse HP.out.2.symm HP.out.1.symm, Below.refl _ _⟩
    · have h19' : s.size ≤ 19 := by omega
      clear h19
      go_wp2
      go_loop [6, 7] (fun q i => ∃ k : Nat, k ≤ s.size ∧ i = .int .i64 k ∧ q = .int .i64 (-(dv s k : Int)) ∧ dv s k ≤ 9223372036854775808) (fun _ i => s.size - (intOf i).toNat)
      case atStart => exact ⟨0, Nat.zero_le _, rfl, rfl, by rw [show dv s 0 = 0 from rfl]; omega⟩
      case round =>
        obtain ⟨k, hk, rfl, rfl, hD⟩ := hrel
        by_cases hlt : k < s.size
        · obtain ⟨hd1, hd2⟩ := dig_of hd hlt
          have hst := hide (dv_step hlt)
          have hq0 := tdq (dv s k) (s[k].toNat - 48) (by omega)
          rw [show ((s[k].toNat - 48 : Nat) : Int) = (s[k].toNat : Int) - 48 by omega] at hq0
          by_cases hb : dv s k * 10 + s[k].toNat ≤ 9223372036854775856
          · have hq : decide (-(dv s k : Int) < (-9223372036854775808 + ((s[k].toNat : Int) - 48)).tdiv 10) = false := decide_eq_false (by rw [hq0]; omega)
            clear hq0
            generalize dv s k = D at *
            go_wp2
            go_round
            case rel => exact ⟨k + 1, by omega, by go_num, by rw [hst.out]; go_num, by rw [hst.out]; omega⟩
            case measure => simp [intOf]; omega
          · have hq : decide (-(dv s k : Int) < (-9223372036854775808 + ((s[k].toNat : Int) - 48)).tdiv 10) = true := decide_eq_true (by rw [hq0]; omega)
            have HP := hide (parse_none (view_val HV.out (k := k + 1) (by rw [hst.out]; omega)))
            clear hq0 hb
            generalize dv s k = D at *
            go_wp2
            go_ret2
            exact ⟨ret_parse HP.out.2.symm HP.out.1.symm, Below.refl _ _⟩
        · obtain rfl : k = s.size := by omega
          have HA := hide (fun n h1 h2 e => view_all HV.out (n := n) h1 h2 e)
          generalize dv s s.size = D at *
          clear hlt hk
          by_cases hm : D = 9223372036854775808
          · have HP := hide (parse_none (s := s) fun n h1 h2 e => by
              obtain ⟨a, b⟩ := HA.out n h1 h2 e
              have hn : ¬ n < 0 := fun h => by have := a.2 h; cases this
              omega)
            have hq : (-(D : Int) == -9223372036854775808) = true := by rw [beq_iff_eq]; omega
            clear hm
            go_wp2
            go_ret2
            exact ⟨ret_parse HP.out.2.symm HP.out.1.symm, Below.refl _ _⟩
          · have hq0 : (-(D : Int) == -9223372036854775808) = false := by rw [beq_eq_false_iff_ne]; omega
            have hDl : D ≤ 9223372036854775807 := by omega
            have hwf : (Lit.int .i64 (D : Int)).wf = true := WalkArith.wf_i64 (by omega)
            clear hm
            by_cases he : itoaB (D : Int) = s
            · have HP := hide (parse_some (n := (D : Int)) (by omega) (by omega) he)
              have hq := str_eq he
              clear he
              go_wp2_with fail
              refine (spec_FormatInt (D : Int) w hwf).mono ?_
              rintro e w1 ⟨rfl, hb1⟩
              go_wp2
              go_ret2
              exact ⟨ret_parse HP.out.2.symm HP.out.1.symm, hb1⟩
            · have HP := hide (parse_none (s := s) fun n h1 h2 e => he (by
                obtain ⟨a, b⟩ := HA.out n h1 h2 e
                have hn : ¬ n < 0 := fun h => by have := a.2 h; cases this
                rw [show (D : Int) = n by omega]; exact e))
              have hq := str_ne he
              clear he
              go_wp2_with fail
              refine (spec_FormatInt (D : Int) w hwf).mono ?_
              rintro e w1 ⟨rfl, hb1⟩
              go_wp2
              go_ret2
              exact ⟨ret_parse HP.out.2.symm HP.out.1.symm, hb1⟩
  · have hdf : digsB s = false := by simpa using hd
    have HP := hide (parse_none (view_digs HV.out hdf))
    clear hd
    go_wp2
    go_ret2
    exact ⟨ret_parse HP.out.2.symm HP.out.1.symm, Below.refl _ _⟩

theorem spec_ParseInt_empty (s : ByteArray) (w : World) (h0 : s.size = 0) :
    Calls Tryd.prog 34 #[.string s] w fun e w' => e = .returned (.tuple #[.int .i64 (pval s), .bool (pok s)]) ∧ Below w.heap.size w w' := by
  have HP := hide (parse_none (view_digs (view_pos (s := s) fun h => by omega) (digsB_nil h0)))
  have hdf := digsB_nil h0
  have hz : ¬ 0 < s.size := by omega
  clear h0
  go_enter Tryd.func34, Tryd.ntmps34
  go_wp2_with fail
  refine (spec_IsDigits s w (by unfold maxLen; omega)).mono ?_
  rintro e w' ⟨rfl, rfl⟩
  go_wp2
  go_ret2
  exact ⟨ret_parse HP.out.2.symm HP.out.1.symm, Below.refl _ _⟩
theorem spec_ParseInt (s : ByteArray) (w : World) (hs : s.size ≤ 1048576) :
    Calls Tryd.prog 34 #[.string s] w fun e w' => e = .returned (.tuple #[.int .i64 (pval s), .bool (pok s)]) ∧ Below w.heap.size w w' := by
  by_cases h0 : 0 < s.size
  · by_cases h : ((s[0].toNat : Int) == 45) = true
    · exact spec_ParseInt_neg s w hs h0 h
    · exact spec_ParseInt_pos s w hs h0 (by simpa using h)
  · exact spec_ParseInt_empty s w (by omega)
end Go.Proofs.YtfajcogkbmefjaaDoor
