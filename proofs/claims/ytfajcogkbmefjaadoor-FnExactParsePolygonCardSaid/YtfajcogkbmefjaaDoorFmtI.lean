/-
  What FormatInt answers, of the program and of the reference: walks (contracts) over their translation.
-/
import Derived.Test.YtfajcogkbmefjaaDoorItoaD
import Derived.Test.YtfajcogkbmefjaaDoorShelf
import Derived.WalkSmall
import Derived.Lib.ItoaMem
import Derived.Deep.RegionWith
import Derived.IntWalk
namespace Go.Proofs.YtfajcogkbmefjaaDoor
open Go.RowKit
set_option linter.unusedVariables false
set_option maxRecDepth 100000

/-- at least 0: the loop -/
theorem spec_FormatInt_pos (n : Nat) (w : World) (hn : n ≤ 9223372036854775807) :
    Calls Tryd.prog 29 #[.int .i64 n] w fun e w' => e = .returned (.string (itoaB n)) ∧ Below w.heap.size w w' := by
  have H0 := hide (itoaB_nat n)
  go_enter Tryd.func29, Tryd.ntmps29
  go_wp2_with fail
  go_loopw [0, 3] (fun i s wr => ∃ (k : Nat) (out : List UInt8), k ≤ n ∧ out.length * 9 + k ≤ n ∧ i = .int .i64 k ∧ s = .string ⟨out.toArray⟩ ∧ Hid (Lib.decDigits n = Lib.decDigits k ++ out) ∧ Below w.heap.size w wr) (fun i _ _ => (intOf i).toNat)
  case atStart => exact ⟨n, [], Nat.le_refl _, by simp, rfl, rfl, by show _ = _; simp, Below.refl _ _⟩
  case round =>
    obtain ⟨k, out, hk, hl, rfl, rfl, H, hb⟩ := hrel
    by_cases hlt : 9 < k
    · have HN : Hid (Lib.decDigits n = Lib.decDigits (k / 10) ++ (dgt (k % 10) :: out)) := by
        show _ = _
        rw [H.out, dec_more hlt, List.append_assoc]; rfl
      have hcv := conv_one (P := Tryd.prog) Tryd.underlying55 Tryd.underlying5 Tryd.underlying9 wr 1 (48 + (k : Int) % 10) (dgt (k % 10)) (by rw [dgt_val (by omega)]; omega)
      clear H
      go_wp2_with fail
      go_roundw
      case rel => exact ⟨k / 10, dgt (k % 10) :: out, by omega, by simp; omega, by go_num, by rw [ByteArray.mk_append_mk]; rfl, HN, hb.alloc hb.size _⟩
      case measure => simp [intOf]; omega
    · have HE : Hid (itoaB n = ⟨(dgt k :: out).toArray⟩) := by
        show _ = _
        rw [H0.out, H.out, dec_one (by omega)]; rfl
      have hcv := conv_one (P := Tryd.prog) Tryd.underlying55 Tryd.underlying5 Tryd.underlying9 wr 1 (48 + (k : Int)) (dgt k) (by rw [dgt_val (by omega)])
      have hle : k ≤ 9 := by omega
      clear H hlt
      go_wp2_with fail
      go_ret
      exact ⟨ret_string (by rw [HE.out]; exact ByteArray.mk_append_mk [dgt k] out), hb.alloc hb.size _⟩
/-- below 0: it calls itself -/
theorem spec_FormatInt_neg : ∀ (f : Nat) (k : Nat) (w : World), k ≤ f → 1 ≤ k → k ≤ 9223372036854775808 →
    Calls Tryd.prog 29 #[.int .i64 (-(k : Int))] w fun e w' => e = .returned (.string (itoaB (-(k : Int)))) ∧ Below w.heap.size w w' := by
  intro f
  induction f with
  | zero => intro k w h1 h2; omega
  | succ f ih =>
    intro k w hf h1 h2
    have HI := hide ih
    clear ih
    have hq : (-(k : Int)).tdiv 10 = -((k / 10 : Nat) : Int) := by rw [Int.neg_tdiv]; simp
    by_cases h10 : k < 10
    · have HE : Hid (itoaB (-(k : Int)) = ⟨[45, dgt k].toArray⟩) := by show _ = _; rw [itoaB_neg h1, dec_one h10]
      have hcv := conv_one (P := Tryd.prog) Tryd.underlying55 Tryd.underlying5 Tryd.underlying9 w 1 (48 + (k : Int)) (dgt k) (by rw [dgt_val (by omega)])
      have hq0 : (-((k : Int) / 10) == 0) = true := by rw [beq_iff_eq]; omega
      clear hq
      go_enter Tryd.func29, Tryd.ntmps29
      go_wp2_with fail
      go_ret
      exact ⟨ret_string (by rw [HE.out]; exact ByteArray.mk_append_mk [45] [dgt k]), (Below.refl _ _).alloc (Nat.le_refl _) _⟩
    · have hq0 : (-((k : Int) / 10) == 0) = false := by rw [beq_eq_false_iff_ne]; omega
      have hl : 10 ≤ k := by omega
      have e10 : (-((k / 10 : Nat) : Int)) = -((k : Int) / 10) := by omega
      have HC := hide (fun W => HI.out (k / 10) W (by omega) (by omega) (by omega))
      rw [e10] at HC
      have HZ : Hid (itoaB (-(k : Int)) = itoaB (-((k : Int) / 10)) ++ ⟨[dgt (k % 10)].toArray⟩) := by
        show _ = _
        rw [← e10, itoaB_neg h1, itoaB_neg (show 1 ≤ k / 10 by omega), dec_more (by omega), ByteArray.mk_append_mk]; rfl
      have hzs : (itoaB (-((k : Int) / 10))).size ≤ 1000000000000000000 := by
        rw [← e10, itoaB_neg (show 1 ≤ k / 10 by omega)]
        have := dec_len (k / 10)
        show (45 :: Lib.decDigits (k / 10)).length ≤ _
        simp only [List.length_cons]; omega
      generalize itoaB (-((k : Int) / 10)) = z at HC HZ hzs
      have hcv := conv_cell (P := Tryd.prog) Tryd.underlying55 Tryd.underlying5 Tryd.underlying9 1 (48 + (k : Int) % 10) (dgt (k % 10)) (by rw [dgt_val (by omega)]; omega)
      have eA : IntKind.i64.wrap (-((k : Int) / 10)) = -((k : Int) / 10) := IntWalk.i64_in _ (by omega)
      have eB : (k : Int).tmod 10 = (k : Int) % 10 := Int.tmod_eq_emod_of_nonneg (by omega)
      have eC : IntKind.i64.wrap (48 + (k : Int) % 10) = 48 + (k : Int) % 10 := IntWalk.i64_in _ (by omega)
      have eD : IntKind.u8.wrap (48 + (k : Int) % 10) = 48 + (k : Int) % 10 := IntWalk.u8_in _ (by omega)
      clear hq h10 e10 HI
      go_enter Tryd.func29, Tryd.ntmps29
      go_wp2_with fail
      go_region_with (first | (go_at_call 29; refine (HC.out _).mono ?_; rintro e w1 ⟨rfl, hb1⟩; have hbc := bcell hb1))
      all_goals
        go_wp2
        go_ret
        refine ⟨ret_string HZ.out.symm, ?_⟩
        first
          | exact (undrew hb1).alloc (undrew hb1).size _
          | exact ((Below.refl _ w).drew.alloc (Nat.le_refl _) _).trans (hb1.mono (by simp))
          | exact (((Below.refl _ w).alloc (Nat.le_refl _) _).drew).trans (hb1.mono (by simp))
theorem spec_FormatInt (n : Int) (w : World) (h : (Lit.int .i64 n).wf = true) :
    Calls Tryd.prog 29 #[.int .i64 n] w fun e w' => e = .returned (.string (itoaB n)) ∧ Below w.heap.size w w' := by
  obtain ⟨h1, h2⟩ := bounds_i64 h
  by_cases h0 : n < 0
  · obtain ⟨k, rfl⟩ : ∃ k : Nat, n = -(k : Int) := ⟨n.natAbs, by omega⟩
    exact spec_FormatInt_neg k k w (Nat.le_refl _) (by omega) (by omega)
  · obtain ⟨k, rfl⟩ : ∃ k : Nat, n = (k : Int) := ⟨n.toNat, by omega⟩
    exact spec_FormatInt_pos k w (by omega)
/-! ### the program's: the library's Itoa, over its table of powers -/
def PowTab (w : World) : Prop := Lib.TabIs Tryd.prog w "internal/strconv.uint64pow10" .u64 Lib.pow10Tab
theorem Tryd.gPow : Tryd.prog.globalNamed "internal/strconv.uint64pow10" = some 3 := by kernel_rfl
theorem Tryd.tPow : (Tryd.prog.globals[3]?).map (·.type) = some 97 := by kernel_rfl
theorem PowTab.below {B : Nat} {w w' : World} (h : PowTab w) (hb : Below B w w') (hB : 3 < B) : PowTab w' := var?_below hb Tryd.gPow hB h
theorem PowTab.lt {w : World} (h : PowTab w) : 3 < w.heap.size := by
  have := World.var?_cell Tryd.gPow h 0
  exact World.block_lt_of_cell? w ⟨3, 0, none⟩ (u := .int .u64 1) (by rw [this]; rfl)
theorem below_grow (w : World) (k : Nat) (os : Array Obj) : Below w.heap.size w (Go.Sort.grow (w.drewN k) os) :=
  ⟨rfl, rfl, rfl, by simp [Go.Sort.grow], fun i hi => by simp [Go.Sort.grow, Array.getElem?_append, hi]⟩
theorem impl_FormatInt (n : Int) (w : World) (h : (Lit.int .i64 n).wf = true) (hT : PowTab w) :
    Calls Tryd.prog 32 #[.int .i64 n] w fun e w' => e = .returned (.string (itoaB n)) ∧ Below w.heap.size w w' := by
  obtain ⟨h1, h2⟩ := bounds_i64 h
  have HC := Tryd.strconv_Itoa n h1 h2 w hT
  go_enter Tryd.func32, Tryd.ntmps32
  go_wp2_with fail
  refine HC.mono ?_
  rintro e w1 ⟨rfl, k, os, rfl⟩
  have hb := below_grow w k os
  go_wp2
  go_ret
  exact ⟨rfl, hb⟩
end Go.Proofs.YtfajcogkbmefjaaDoor
