/-
  The program's polygons: contracts: areValidVecs, NegatePolygon.
-/
import Derived.Test.YtocllmaikngoaaaHM
import Derived.Test.YtocllmaikngoaaaPI
import Derived.Test.YtocllmaikngoaaaLB
namespace Go.Proofs.Ytocllmaikngoaaa
open Go.RowKit
set_option linter.unusedVariables false
def inV (m : Int) (v : V2) : Bool := inB m v.1 v.2
def allIn (m : Int) (l : List V2) : Bool := l.all (inV m)
theorem allIn_no {m : Int} {l : List V2} {k : Nat} (hk : k < l.length) (h : inV m l[k] = false) : allIn m l = false := by
  cases e : allIn m l with
  | false => rfl
  | true => rw [List.all_eq_true.1 e _ (List.getElem_mem hk)] at h; cases h
set_option maxRecDepth 100000 in
set_option maxHeartbeats 1600000 in
theorem impl_areWithin (w : World) (B : Nat) (hB : B ≤ w.heap.size) (A : Option Addr) (n c : Nat) (l : List V2) (R : RdV w B A n l) (m : Int) (hm : 0 ≤ m ∧ m ≤ 1000000) :
    Calls Try.prog 74 #[.slice A n c, .int .i64 m] w fun e w' => e = .returned (.bool (allIn m l)) ∧ Below w.heap.size w w' := by
  obtain ⟨hn, hx, hl, hwf⟩ := R
  go_enter Try.func74, Try.ntmps74
  go_wp2_with fail
  go_loopw [9] (fun i wr => ∃ k : Nat, k ≤ n ∧ i = .int .i64 k ∧ Hid (∀ j (h : j < l.length), j < k → inV m l[j] = true) ∧ Below w.heap.size w wr) (fun i _ => n - (intOf i).toNat)
  case atStart => exact ⟨0, Nat.zero_le _, rfl, fun j _ h => absurd h (Nat.not_lt_zero _), Below.refl _ _⟩
  case round =>
    obtain ⟨k, hk, rfl, H, hbel⟩ := hrel
    by_cases hlt : k < n
    · obtain ⟨ad, hA, hb1, hc1, hc2⟩ := (hx.below (hbel.mono hB)).vec (k := k) (by omega)
      have hkl : k < l.length := by omega
      obtain ⟨f1, f2⟩ := wfV_at hwf hkl
      have HV := hide (fun (W : World) => impl_isWithin W l[k].1 l[k].2 m f1 f2 hm)
      have hbs := hbel.size
      generalize hv : l[k] = v0 at *
      obtain ⟨x0, y0⟩ := v0
      obtain ⟨W0, hW0⟩ : ∃ W0, W0 = wr.alloc (.cells #[.int .i64 x0, .int .i64 y0] 29) := ⟨_, rfl⟩
      have ka : Box W0 wr.heap.size 29 #[.int .i64 x0, .int .i64 y0] := by rw [hW0]; exact Box.last _ _ _ rfl
      have hT : Below wr.heap.size wr W0 := by rw [hW0]; exact below_new _ _
      subst hA
      go_upto_region 4 with fail
      rw [← hW0]
      clear hW0 hc1 hc2
      obtain ⟨ya0, ya1⟩ := ka.cells2
      go_wp2_with fail
      refine (HV.out _).mono ?_
      rintro e w1 ⟨rfl, hb1⟩
      clear ya0 ya1 HV
      have hT2 := hT.trans (hb1.mono hT.size)
      have hbel2 := hbel.trans (hT2.mono hbs)
      clear hT hT2 hb1
      by_cases ev : inB m x0 y0 = true
      case neg =>
        have ev : inB m x0 y0 = false := by simpa using ev
        have HN : Hid (allIn m l = false) := allIn_no hkl (by rw [hv]; exact ev)
        rw [ev]
        go_wp2_with fail
        go_ret
        exact ⟨ret_bool HN.out.symm, hbel2⟩
      rw [ev]
      have HN : Hid (∀ j (h : j < l.length), j < k + 1 → inV m l[j] = true) := fun j h hj => by
        by_cases e : j = k
        · subst e; rw [hv]; exact ev
        · exact H.out j h (by omega)
      clear H
      go_wp2_with fail
      go_roundw
      case rel => exact ⟨k + 1, by omega, by go_num, HN, hbel2⟩
      case measure => simp [intOf]; omega
    · obtain rfl : k = n := by omega
      have HN : Hid (allIn m l = true) := List.all_eq_true.2 fun v hv => by obtain ⟨j, hj, rfl⟩ := List.getElem_of_mem hv; exact H.out j hj (by omega)
      clear hx H
      go_wp2_with fail
      go_ret
      exact ⟨ret_bool HN.out.symm, hbel⟩
end Go.Proofs.Ytocllmaikngoaaa
