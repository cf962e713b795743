/-
  What SplitAny answers, of the reference.
-/
import Derived.Test.YtfajcogkbmefjaaDoorSplitP
namespace Go.Proofs.YtfajcogkbmefjaaDoor
open Go.RowKit
set_option linter.unusedVariables false

set_option maxHeartbeats 1600000 in
theorem spec_SplitAny (s b : ByteArray) (w : World) (hs : s.size ≤ 1099511627776) (hb : b.size ≤ 1099511627776) :
    Calls Tryd.prog 22 #[.string s, .string b] w fun e w' => ∃ v, e = .returned v ∧ w'.ownsRow w.heap.size 9 1 v (splitL s b).length (sv (splitL s b)) ∧ Below w.heap.size w w' := by
  go_enter Tryd.func22, Tryd.ntmps22
  go_wp2
  go_loopw [5, 6, 7] (fun v f i wr => ∃ k : Nat, k ≤ s.size ∧ i = .int .i64 k ∧ f = .int .i64 ((pieces s b k).2 : Nat) ∧ wr.ownsRow w.heap.size 9 1 v (pieces s b k).1.length (sv (pieces s b k).1) ∧ w.heap.size ≤ wr.heap.size ∧ Below w.heap.size w wr) (fun _ _ i _ => s.size - (intOf i).toNat)
  case atStart => exact ⟨0, Nat.zero_le _, rfl, rfl, World.ownsRow_made w #[] 0 (Nat.le_refl _) (by unfold maxLen; omega) rfl, by simp, (Below.refl _ _).alloc (Nat.le_refl _) _⟩
  case round =>
    obtain ⟨i, hi, rfl, rfl, hown, hsz, hbel⟩ := hrel
    obtain ⟨hp1, hp2⟩ := pieces_le s b i
    obtain ⟨wo, hwo⟩ : ∃ wo, wo = wr := ⟨_, rfl⟩
    subst hwo
    by_cases hlt : i < s.size
    · go_wp2
      go_loopw [5, 6, 8] (fun v f q wr => ∃ k d : Nat, k ≤ b.size ∧ q = .int .i64 k ∧ v = u5 ∧ f = .int .i64 ((pieces s b i).2 : Nat) ∧ wr = wo.drewN d ∧ Hid (cutB b k s[i] = false)) (fun _ _ q _ => b.size - (intOf q).toNat)
      case atStart => exact ⟨0, 0, Nat.zero_le _, rfl, rfl, rfl, rfl, cutB_zero b _⟩
      case round =>
        obtain ⟨k, d, hk, rfl, rfl, rfl, rfl, H⟩ := hrel
        by_cases hlk : k < b.size
        · by_cases he : s[i] = b[k]
          · have hq : ((s[i].toNat : Int) == (b[k].toNat : Int)) = true := by rw [he]; simp
            have hcut : cutB b b.size s[i] = true := decide_eq_true ⟨k, hlk, hlk, he.symm⟩
            have HN : Hid (pieces s b (i + 1) = ((pieces s b i).1 ++ [s.extract (pieces s b i).2 i], i + 1)) := pieces_cut hlt hcut
            clear he hcut H
            generalize (pieces s b i).2 = f at *
            generalize (pieces s b i).1 = ps at *
            go_wp2_with fail
            go_quiet (fail)
            have hownW : World.ownsRow ((wo.drewN d).drewN nq) w.heap.size 9 1 u5 ps.length (sv ps) := hown
            have hbW : Below w.heap.size w ((wo.drewN d).drewN nq) := below_drewN (below_drewN hbel d) nq
            have hsW : w.heap.size ≤ ((wo.drewN d).drewN nq).heap.size := hsz
            generalize (wo.drewN d).drewN nq = W at *
            go_wp2_with (at_builtin; refine wpList_append1 Tryd.sliceStr rfl _ _ rfl W w.heap.size _ _ _ hownW rfl #[.string (s.extract f i)] 1 rfl rfl (by simp [Value.oneCell']) (by omega) (by omega) (by omega) ?_; intro v' w1 hown1 hb1)
            have hb1s := hb1.size
            go_roundw
            case rel => exact ⟨i + 1, by omega, by go_num, by rw [HN.out]; go_num, by rw [HN.out]; simpa [sv] using hown1, by omega, hbW.trans hb1⟩
            case measure => simp [intOf]; omega
          · have hq : ((s[i].toNat : Int) == (b[k].toNat : Int)) = false := by
              rw [beq_eq_false_iff_ne]
              intro e
              exact he (UInt8.toNat_inj.1 (by omega))
            have HN : Hid (cutB b (k + 1) s[i] = false) := (cutB_step hlk (Ne.symm he)).trans H.out
            clear he H
            go_wp2_with fail
            go_quiet (fail)
            go_wp2
            go_roundw
            case rel => exact ⟨k + 1, d + nq, by omega, by go_num, rfl, rfl, rfl, HN⟩
            case measure => simp [intOf]; omega
        · obtain rfl : k = b.size := by omega
          have HN : Hid (pieces s b (i + 1) = pieces s b i) := pieces_none hlt H.out
          clear H
          go_wp2
          go_roundw
          case rel => exact ⟨i + 1, by omega, by go_num, by rw [HN.out], by rw [HN.out]; exact hown, hsz, below_drewN hbel d⟩
          case measure => simp [intOf]; omega
    · obtain rfl : i = s.size := by omega
      have HS : Hid (splitL s b = (pieces s b s.size).1 ++ [s.extract (pieces s b s.size).2 s.size]) := rfl
      generalize (pieces s b s.size).2 = f at *
      generalize (pieces s b s.size).1 = ps at *
      go_wp2_with (at_builtin; refine wpList_append1 Tryd.sliceStr rfl _ _ rfl wo w.heap.size _ _ _ hown rfl #[.string (s.extract f s.size)] 1 rfl rfl (by simp [Value.oneCell']) (by omega) (by omega) (by omega) ?_; intro v' w1 hown1 hb1)
      go_ret
      refine ⟨v', rfl, ?_, hbel.trans hb1⟩
      rw [HS.out]
      simpa [sv] using hown1
end Go.Proofs.YtfajcogkbmefjaaDoor
