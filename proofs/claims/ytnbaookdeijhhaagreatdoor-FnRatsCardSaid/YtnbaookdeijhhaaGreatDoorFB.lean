/-
  The texts PadC, FmtC, put together; each has its own heading below. No condition of ours.
-/
import Derived.Test.YtnbaookdeijhhaaGreatDoorPadP
import Derived.Test.YtnbaookdeijhhaaGreatDoorFA
import Derived.Test.YtnbaookdeijhhaaGreatDoorFmtI
import Derived.Test.YtnbaookdeijhhaaGreatDoorRA
import Derived.Test.YtnbaookdeijhhaaGreatDoorIA
/-
  What PadZeros answers, of the program and of the reference.
-/

namespace Go.Proofs.YtnbaookdeijhhaaGreatDoor
open Go.RowKit
set_option linter.unusedVariables false

set_option maxHeartbeats 400000 in
theorem impl_PadZeros (s : ByteArray) (n : Int) (w : World) (hs : s.size ≤ 1048576) :
    Calls Tryz.prog 94 #[.string s, .int .i64 n] w fun e w' => e = .returned (.string (padB s n)) ∧ Below w.heap.size w w' := by
  by_cases h1 : n ≤ s.size
  · have HB : Hid (padB s n = s) := pad_same (.inl h1)
    go_enter Tryz.func94, Tryz.ntmps94
    go_wp2
    go_ret
    exact ⟨ret_string HB.out.symm, Below.refl _ _⟩
  · by_cases h2 : 2000 < n
    · have HB : Hid (padB s n = s) := pad_same (.inr h2)
      go_enter Tryz.func94, Tryz.ntmps94
      go_wp2
      go_ret
      exact ⟨ret_string HB.out.symm, Below.refl _ _⟩
    · obtain ⟨k, hk⟩ : ∃ k : Nat, (k : Int) = n - s.size := ⟨(n - s.size).toNat, by omega⟩
      have hk2 : k ≤ 2000 := by omega
      have hR := Tryz.strings_Repeat ⟨#[48]⟩ k w (by omega) (by show 1 * k ≤ _; omega)
      have HB : Hid (padB s n = joinB [⟨(Lib.repeatL (ByteArray.mk #[48]).data.toList k).toArray⟩, s] ⟨#[]⟩) := by
        show _ = _
        unfold padB joinB joinL padL
        rw [if_neg (by omega), show (n - s.size).toNat = k by omega]
        show _ = (⟨(Lib.join [Lib.repeatL [48] k, s.data.toList] []).toArray⟩ : ByteArray)
        rw [repeat_zero]
        simp [Lib.join, List.intercalate]
      have hzs : (⟨(Lib.repeatL (ByteArray.mk #[48]).data.toList k).toArray⟩ : ByteArray).size = k := by
        show (Lib.repeatL [48] k).toArray.size = k
        rw [repeat_zero]; simp
      generalize (⟨(Lib.repeatL (ByteArray.mk #[48]).data.toList k).toArray⟩ : ByteArray) = z at hR HB hzs
      have hlen : Hid ((joinL [z, s] ⟨#[]⟩).length ≤ 140737488355328) := by
        have := joinL_len [z, s] ⟨#[]⟩
        simp only [sumS, List.map_cons, List.map_nil, List.sum_cons, List.sum_nil, List.length_cons, List.length_nil] at this
        have h0 : (ByteArray.mk #[]).size = 0 := rfl
        rw [h0] at this
        show _ ≤ _
        omega
      have h1' : decide (n ≤ (s.size : Int)) = false := decide_eq_false h1
      have h2' : decide (2000 < n) = false := decide_eq_false h2
      have h1l : (s.size : Int) < n := by omega
      have h2l : n ≤ 2000 := by omega
      rw [hk] at hR
      clear hk hzs h1 h2
      go_enter Tryz.func94, Tryz.ntmps94
      go_wp2_with fail
      refine hR.mono ?_
      rintro e w1 ⟨rfl, hb1⟩
      clear hR
      have hJ := joinWith_any w1.heap.size 2 2 [z, s] ⟨#[]⟩ (w1.alloc (.cells #[.string z, .string s] 9)) rfl (Nat.le_refl _)
        (fun j x hj => by
          rw [Nat.zero_add, World.cell?_alloc_mark]
          match j, hj with
          | 0, hj => simp at hj; simp [hj]
          | 1, hj => simp at hj; simp [hj])
        (by simp) (by omega) hlen.out
      go_wp2_with fail
      refine hJ.mono ?_
      rintro e w2 ⟨rfl, hb2⟩
      clear hJ
      go_wp2
      go_ret
      exact ⟨ret_string HB.out.symm, (hb1.alloc hb1.size _).trans (hb2.mono (by simp; have := hb1.size; omega))⟩
end Go.Proofs.YtnbaookdeijhhaaGreatDoor

/-
  FormatNat, of the reference and of the program: contracts.
-/





namespace Go.Proofs.YtnbaookdeijhhaaGreatDoor
open Go.RowKit
set_option linter.unusedVariables false

theorem fmt_no {a : List Int} (h : natB a = false) : fmtB a = ⟨#[]⟩ := by rw [fmtB, h]; rfl
theorem fmt_nil : fmtB [] = ⟨#[48]⟩ := by
  have : natB [] = true := rfl
  rw [fmtB, this]; rfl
theorem fmt_yes {a : List Int} (h : natB a = true) (h0 : a ≠ []) : fmtB a = joinB (tx a (a.length - 1)) ⟨#[]⟩ := by rw [fmtB, if_pos h, if_neg h0]
theorem limb_wf {d : Int} (h : 0 ≤ d ∧ d ≤ 999999999) : (Lit.int .i64 d).wf = true := WalkArith.wf_i64 ⟨by omega, by omega⟩
theorem itoaB_small {d : Int} (h : 0 ≤ d ∧ d ≤ 999999999) : (itoaB d).size ≤ 1048576 := by
  have e := itoaB_dig h.1
  have es : (itoaB d).size = (Lib.decDigits d.toNat).length := by rw [← e]; simp
  have := dec_len19 (k := d.toNat) (by omega)
  omega
theorem getD_b {a : List Int} (h : Limbs a) (i : Nat) : 0 ≤ a.getD i 0 ∧ a.getD i 0 ≤ 999999999 := by
  by_cases hi : i < a.length
  · rw [getD_in hi]; exact h _ (List.getElem_mem _)
  · rw [getD_out (by omega)]; omega
theorem grp_len {d : Int} (h : 0 ≤ d ∧ d ≤ 999999999) : (grp d).data.toList.length ≤ 9 := by
  have := dec_len9 h
  rw [grp_dig h.1, List.length_append, List.length_replicate]; omega
theorem tx_size {a : List Int} (h : Limbs a) (j : Nat) : (joinL (tx a j) ⟨#[]⟩).length ≤ 9 + 9 * j := by
  induction j with
  | zero =>
    rw [tx, joinL_one, itoaB_dig (getD_b h _).1]
    have := dec_len9 (getD_b h (a.length - 1))
    omega
  | succ j ih =>
    rw [tx, joinE, List.length_append]
    have := grp_len (getD_b h (a.length - 2 - j))
    omega
theorem tx_len (a : List Int) (j : Nat) : (tx a j).length = j + 1 := by
  induction j with
  | zero => rfl
  | succ j ih => rw [tx, List.length_append, ih]; rfl
set_option maxRecDepth 100000 in
set_option maxHeartbeats 3200000 in
theorem impl_FormatNat (w : World) (B : Nat) (hB : B ≤ w.heap.size) (A0 : Option Addr) (n0 c0 : Nat) (xs0 : List Int) (R0 : RdI w B A0 n0 xs0) (hT : PowTab w) :
    Calls Tryz.prog 46 #[.slice A0 n0 c0] w fun e w' => e = .returned (.string (fmtB xs0)) ∧ Below w.heap.size w w' := by
  have H0 := hide (impl_NatOk w B hB A0 n0 c0 xs0 R0)
  by_cases h0 : natB xs0 = true
  · obtain ⟨hc, hl⟩ := (natB_iff xs0).1 h0
    obtain ⟨hn, hx, _, _⟩ := R0
    by_cases hz : n0 = 0
    · have HE : Hid (fmtB xs0 = ⟨#[48]⟩) := by
        have : xs0 = [] := List.eq_nil_of_length_eq_zero (by omega)
        subst this; exact fmt_nil
      subst hz
      clear hx hc
      go_enter Tryz.func46, Tryz.ntmps46
      go_wp2_with fail
      refine H0.out.mono ?_
      rintro e w' ⟨rfl, rfl⟩
      go_wp2_with fail
      go_ret
      exact ⟨ret_string HE.out.symm, Below.refl _ _⟩
    · have hz' : ((n0 : Int) == 0) = false := by simp; omega
      have HY := hide (fmt_yes h0 (fun e => by subst e; simp at hn; omega))
      have hlx := hc.1
      obtain ⟨ad, hA, hab, hce⟩ := hx.int (k := n0 - 1) (by omega)
      have htop := hlx xs0[n0 - 1] (List.getElem_mem _)
      have HTX : Hid (tx xs0 0 = [itoaB xs0[n0 - 1]]) := by
        show _ = _
        have e : xs0.getD (xs0.length - 1) 0 = xs0[n0 - 1] := by
          have h2 : xs0.length - 1 = n0 - 1 := by omega
          rw [h2]; exact getD_in (by omega)
        rw [tx, e]
      have HF := hide (impl_FormatInt xs0[n0 - 1] w (limb_wf htop) hT)
      have hn0 : n0 ≤ 60 := by omega
      generalize xs0[n0 - 1] = top at *
      have HX := hide hx
      have HL := hide hlx
      have HPT := hide hT
      clear hc hx hlx hT
      subst hA
      go_enter Tryz.func46, Tryz.ntmps46
      go_wp2_with fail
      refine H0.out.mono ?_
      rintro e w' ⟨rfl, rfl⟩
      go_wp2_with fail
      refine HF.out.mono ?_
      rintro e w1 ⟨rfl, hb1⟩
      have hown0 := own_lower (own_one w1 9 (.string (itoaB top))) hb1.size
      have hb2 := hb1.alloc hb1.size (.cells #[.string (itoaB top)] 9)
      have HO : Hid ((w1.alloc (.cells #[.string (itoaB top)] 9)).ownsRow w.heap.size 9 1 (.slice (some ⟨w1.heap.size, 0, none⟩) 1 1) (0 + 1) (sv (tx xs0 0))) := by
        rw [HTX.out]; exact hown0
      clear HF H0 hce HTX hown0 hb1
      go_wp2_with fail
      go_loopw [4, 5] (fun v i wr => ∃ j : Nat, j ≤ n0 - 1 ∧ wr.ownsRow w.heap.size 9 1 v (j + 1) (sv (tx xs0 j)) ∧ i = .int .i64 ((n0 : Int) - 2 - (j : Int)) ∧ Below w.heap.size w wr) (fun _ i _ => (intOf i + 1).toNat)
      case atStart => exact ⟨0, Nat.zero_le _, HO.out, by congr 1; omega, hb2⟩
      case round =>
        clear hb2 HO
        obtain ⟨j, hj, hown, rfl, hbl⟩ := hrel
        have hbs := hbl.size
        by_cases hlt : j < n0 - 1
        · obtain ⟨ii, hii⟩ : ∃ ii : Nat, (ii : Int) = (n0 : Int) - 2 - (j : Int) := ⟨n0 - 2 - j, by omega⟩
          obtain ⟨ad', hA, hab', hce⟩ := (HX.out.below (hbl.mono hB)).int (k := ii) (by omega)
          have hdb := HL.out xs0[ii] (List.getElem_mem _)
          have hgd : xs0.getD (xs0.length - 2 - j) 0 = xs0[ii] := by
            rw [show xs0.length - 2 - j = ii by omega]; exact getD_in (by omega)
          have HS : Hid (sv (tx xs0 j) ++ [.string (grp xs0[ii])] = sv (tx xs0 (j + 1))) := by
            show _ = _
            rw [tx, hgd]; simp [sv]
          have HF := hide (impl_FormatInt xs0[ii] wr (limb_wf hdb) (HPT.out.below hbl (HPT.out.lt)))
          have HP := hide (fun w2 : World => impl_PadZeros (itoaB xs0[ii]) 9 w2 (itoaB_small hdb))
          have HPE : Hid (padB (itoaB xs0[ii]) 9 = grp xs0[ii]) := rfl
          generalize grp xs0[ii] = gb at *
          generalize xs0[ii] = d at *
          injection hA with hA
          subst hA
          rw [← hii]
          have hi0 : (0 : Int) ≤ (ii : Int) := Int.natCast_nonneg _
          have hi1 : ii < n0 := by omega
          have HII := hide hii
          clear hgd hii
          go_wp2_with fail
          refine HF.out.mono ?_
          rintro e w2 ⟨rfl, hb2⟩
          have HB2 := hide (hbl.trans (hb2.mono hbs))
          have hown2 := own_grown hown hb2
          have hs2 := hb2.size
          clear hb2 HF hown
          go_wp2_with fail
          refine (HP.out w2).mono ?_
          rintro e w3 ⟨rfl, hb3⟩
          rw [HPE.out]
          have HB3 := hide (HB2.out.trans (hb3.mono (by omega)))
          have hown3 := own_grown hown2 hb3
          have hs3 := hb3.size
          clear HP HPE hb3 hown2
          go_wp2_with (at_builtin; refine wpList_append1 Tryz.sliceStr rfl _ _ rfl w3 w.heap.size _ _ _ hown3 rfl #[.string gb] 1 rfl rfl (by simp [Value.oneCell']) (by omega) (by omega) (by omega) ?_; intro v' w4 hown4 hb4)
          have HB4 := hide (HB3.out.trans hb4)
          have HO4 : Hid (w4.ownsRow w.heap.size 9 1 v' (j + 1 + 1) (sv (tx xs0 (j + 1)))) := by
            rw [← HS.out]; exact hown4
          clear hown4 hb4 HS
          go_roundw
          case rel => exact ⟨j + 1, by omega, HO4.out, by have := HII.out; congr 1; omega, HB4.out⟩
          case measure => simp [intOf]
        · obtain rfl : j = n0 - 1 := by omega
          have HE : Hid (joinB (tx xs0 (n0 - 1)) ⟨#[]⟩ = fmtB xs0) := by show _ = _; rw [HY.out, hn]
          rcases own_form hown with ⟨_, h2, _⟩ | ⟨g, c, rfl, _, hg⟩
          · omega
          · obtain ⟨_, hcc, _⟩ := own_nilcap hown
            have hJ := hide (joinWith_any g (n0 - 1 + 1) c (tx xs0 (n0 - 1)) ⟨#[]⟩ wr (tx_len _ _) hcc (fun k x hk => by
              rw [Nat.zero_add, hown.cellAt k (by have := (List.getElem?_eq_some_iff.1 hk).1; rw [tx_len] at this; omega)]
              simp [sv, hk]) hg (by omega) (by have := tx_size HL.out (n0 - 1); omega))
            clear HX HL HY hown hcc
            go_wp2_with fail
            refine hJ.out.mono ?_
            rintro e w2 ⟨rfl, hb2⟩
            have HB2 := hide (hbl.trans (hb2.mono hbs))
            clear hb2 hJ
            go_wp2_with fail
            go_ret
            exact ⟨ret_string HE.out, HB2.out⟩
  · have h0' : natB xs0 = false := by simpa using h0
    have HE := hide (fmt_no h0')
    clear R0 h0
    go_enter Tryz.func46, Tryz.ntmps46
    go_wp2_with fail
    refine H0.out.mono ?_
    rintro e w' ⟨rfl, rfl⟩
    go_wp2_with fail
    go_ret
    exact ⟨ret_string HE.out.symm, Below.refl _ _⟩
end Go.Proofs.YtnbaookdeijhhaaGreatDoor
