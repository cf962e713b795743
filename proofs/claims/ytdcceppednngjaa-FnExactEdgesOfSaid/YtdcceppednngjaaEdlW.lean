/-
  The walk of the exact law of EdgesOf.
-/
import Derived.Test.YtdcceppednngjaaEdlR
import Derived.Test.YtdcceppednngjaaEdlL
import Derived.Test.YtdcceppednngjaaSA
namespace Go.Proofs.Ytdcceppednngjaa
open Go.RowKit
set_option linter.unusedVariables false
set_option maxRecDepth 100000 in
set_option maxHeartbeats 16000000 in
theorem FnExactEdgesOf_walk (w : World) (a0 : Option Addr) (len0 cap0 : Nat) (ss : List Sl) (h0 : IsSS w a0 len0 cap0 ss) :
    Calls Try.prog 4 #[.slice a0 len0 cap0] w fun e w' => e = .returned (.bool true) ∧ Below w.heap.size w w' := by
  have hm := Nat.le_trans h0.2.1 h0.2.2.1
  have HSZ := hide (szSS_any w w.heap.size a0 len0 cap0 1048576 ss (Nat.le_refl _) h0.1 hm h0.2.2.2.1 (fun s hs => Nat.le_trans (h0.2.2.2.2 s hs).cap.1 (h0.2.2.2.2 s hs).cap.2))
  clear hm
  by_cases c0 : len0 + totN (cont ss) ≤ 1048576
  · rw [szR_ok c0] at HSZ
    have RI : RdS w w.heap.size a0 len0 ss := h0.rdS c0
    have hcl : (cont ss).length = len0 := by rw [cont_len]; exact h0.1
    have HEL : Hid (∀ tt, cont tt = cont ss → ∀ s ∈ tt, s.vs.length ≤ 1048576 ∧ wfV s.vs) := fun tt e s hs => by
      have hmem : s.vs ∈ cont ss := by rw [← e]; exact List.mem_map.2 ⟨s, hs, rfl⟩
      obtain ⟨s', hs', e'⟩ := List.mem_map.1 hmem
      have r := RI.2.2.2 s' hs'
      rw [← e']; exact ⟨r.2.2.1, r.2.2.2⟩
    have hwf : ∀ l ∈ cont ss, wfV l := fun l hl => by
      obtain ⟨s', hs', e'⟩ := List.mem_map.1 hl
      rw [← e']; exact (RI.2.2.2 s' hs').2.2.2
    obtain ⟨el, hel⟩ : ∃ el, el = edgR (cont ss) := ⟨_, rfl⟩
    have hlen : el.length ≤ 1048576 := by rw [hel]; have := edgR_len (cont ss); omega
    have HWE : Hid (wfE el) := by show _; rw [hel]; exact edgR_wf hwf (by omega)
    have hng : ¬ ((1048576 - (len0 + totN (cont ss)) : Nat) : Int) < 0 := by omega
    have htot : totN (cont ss) ≤ 1048576 := by omega
    have hlen0 : len0 ≤ 1048576 := by omega
    have hT0 : Below w.heap.size w w := Below.refl _ _
    have HEQ := hide hel
    clear h0 hwf hcl hel
    go_enter Try.func4, Try.ntmps4
    go_wp2_with fail
    refine HSZ.out.mono ?_
    rintro e w' ⟨rfl, rfl⟩
    clear HSZ
    go_wp2_with fail
    refine (toSS_any w w.heap.size hT0.size a0 len0 cap0 ss RI).mono ?_
    rintro e w1 ⟨g1, t1, rfl, c1, o1, hb1⟩
    have hs1 := hb1.size
    have RI := RI.below (Below.mono hb1 (by omega))
    have hT1 := below_then hT0 hb1
    clear hT0 hb1
    have HC := spec_EdgesOf w1 w1.heap.size (Nat.le_refl _) (some ⟨g1, 0, none⟩) len0 len0 t1 (o1.rdS (by omega) (by omega) (HEL.out _ c1)) (by rw [c1]; omega)
    rw [c1, ← HEQ.out] at HC
    have HC := hide HC
    go_wp2_with fail
    refine HC.out.mono ?_
    rintro e w2 ⟨v2, rfl, o2, hb2⟩
    clear HC
    obtain ⟨A2, e2, rfl⟩ := o2.form
    have hs2 := hb2.size
    have o1 := o1.below hb2 (by omega)
    have RI := RI.below (Below.mono hb2 (by omega))
    have hT2 := below_then hT1 hb2
    clear hT1 hb2
    clear o1
    go_wp2_with fail
    refine (toSS_any w2 w.heap.size hT2.size a0 len0 cap0 ss RI).mono ?_
    rintro e w3 ⟨g3, t3, rfl, c3, o3, hb3⟩
    have hs3 := hb3.size
    have o2 := o2.below hb3 (by omega)
    have RI := RI.below (Below.mono hb3 (by omega))
    have hT3 := below_then hT2 hb3
    clear hT2 hb3
    have HC := impl_EdgesOf w3 w3.heap.size (Nat.le_refl _) (some ⟨g3, 0, none⟩) len0 len0 t3 (o3.rdS (by omega) (by omega) (HEL.out _ c3)) (by rw [c3]; omega)
    rw [c3, ← HEQ.out] at HC
    have HC := hide HC
    go_wp2_with fail
    refine HC.out.mono ?_
    rintro e w4 ⟨v4, rfl, o4, hb4⟩
    clear HC
    obtain ⟨A4, e4, rfl⟩ := o4.form
    have hs4 := hb4.size
    have o2 := o2.below hb4 (by omega)
    have o3 := o3.below hb4 (by omega)
    have RI := RI.below (Below.mono hb4 (by omega))
    have hT4 := below_then hT3 hb4
    clear hT3 hb4
    go_wp2_with fail
    refine (eqEdgeS_any A4 A2 el.length e4 e2 w4.heap.size el w4 rfl (o4.rdB (by omega)) (o2.rdB (by omega)) (Nat.le_refl _) (by omega) HWE.out).mono ?_
    rintro e w5 ⟨rfl, hb5⟩
    have hs5 := hb5.size
    have o2 := o2.below hb5 (by omega)
    have o3 := o3.below hb5 (by omega)
    have o4 := o4.below hb5 (by omega)
    have RI := RI.below (Below.mono hb5 (by omega))
    have hT5 := below_then hT4 hb5
    clear hT4 hb5
    go_wp2_with fail
    refine (toSS_any w5 w.heap.size hT5.size a0 len0 cap0 ss RI).mono ?_
    rintro e w6 ⟨g5, t5, rfl, c5, o5, hb6⟩
    have hs6 := hb6.size
    have o2 := o2.below hb6 (by omega)
    have o3 := o3.below hb6 (by omega)
    have o4 := o4.below hb6 (by omega)
    have RI := RI.below (Below.mono hb6 (by omega))
    have hT6 := below_then hT5 hb6
    clear hT5 hb6
    go_wp2_with fail
    refine (eqSS_any w6 w6.heap.size (Nat.le_refl _) (some ⟨g3, 0, none⟩) len0 len0 t3 (o3.rdS (by omega) (by omega) (HEL.out _ c3)) (some ⟨g5, 0, none⟩) len0 t5 (o5.rdS (by omega) (by omega) (HEL.out _ c5)) (by rw [c3, c5])).mono ?_
    rintro e w7 ⟨rfl, hb7⟩
    have hs7 := hb7.size
    have o2 := o2.below hb7 (by omega)
    have o3 := o3.below hb7 (by omega)
    have o4 := o4.below hb7 (by omega)
    have o5 := o5.below hb7 (by omega)
    have RI := RI.below (Below.mono hb7 (by omega))
    have hT7 := below_then hT6 hb7
    clear hT6 hb7
    clear o5
    go_wp2_with fail
    refine (markSS_own w7 _ len0 1 _ _ _ _ t3 o3 (by rw [c3]; omega) (by omega) (by omega)).mono ?_
    rintro e w8 ⟨rfl, r3, ha8⟩
    rw [c3]
    have hk3 : ¬ ((1 + totN (cont ss) * 2 : Nat) : Int) < 0 := by omega
    have hs8 := ha8.size
    have o2 := o2.aside ha8 (by omega)
    have o4 := o4.aside ha8 (by omega)
    have RI := RI.below (Aside.below ha8 (by omega) (by omega))
    have hT8 := hT7.trans (Aside.below ha8 (by omega) (by omega))
    have o3 := r3
    clear r3
    clear hT7 ha8
    clear o3
    go_wp2_with fail
    refine (eqEdgeS_any A4 A2 el.length e4 e2 w8.heap.size el w8 rfl (o4.rdB (by omega)) (o2.rdB (by omega)) (Nat.le_refl _) (by omega) HWE.out).mono ?_
    rintro e w9 ⟨rfl, hb9⟩
    have hs9 := hb9.size
    have o2 := o2.below hb9 (by omega)
    have o4 := o4.below hb9 (by omega)
    have RI := RI.below (Below.mono hb9 (by omega))
    have hT9 := below_then hT8 hb9
    clear hT8 hb9
    go_wp2_with fail
    refine (markEdgeS_own _ el.length 1 _ _ _ el w9 o4 (by omega) (by omega)).mono ?_
    rintro e w10 ⟨rfl, r4, ha10⟩
    have hs10 := ha10.size
    have o2 := o2.aside ha10 (by omega)
    have RI := RI.below (Aside.below ha10 (by omega) (by omega))
    have hT10 := hT9.trans (Aside.below ha10 (by omega) (by omega))
    have o4 := r4
    clear r4
    clear hT9 ha10
    obtain ⟨K, hK⟩ : ∃ K : Nat, K = 1 + el.length * 6 := ⟨_, rfl⟩
    have hkK : ¬ (K : Int) < 0 := by omega
    have HK := hide hK
    rw [← hK]
    clear hK
    go_wp2_with fail
    refine (heldEdgeS_any A4 el.length e4 1 w10.heap.size w10 (o4.rdB (by omega)) (by omega) (by omega)).mono ?_
    rintro e w' ⟨he, rfl⟩
    rw [← HK.out] at he
    subst he
    go_wp2_with fail
    refine (toSS_any w10 w.heap.size hT10.size a0 len0 cap0 ss RI).mono ?_
    rintro e w11 ⟨g6, t6, rfl, c6, o6, hb11⟩
    have hs11 := hb11.size
    have o2 := o2.below hb11 (by omega)
    have o4 := o4.below hb11 (by omega)
    have RI := RI.below (Below.mono hb11 (by omega))
    have hT11 := below_then hT10 hb11
    clear hT10 hb11
    have HC := impl_EdgesOf w11 w11.heap.size (Nat.le_refl _) (some ⟨g6, 0, none⟩) len0 len0 t6 (o6.rdS (by omega) (by omega) (HEL.out _ c6)) (by rw [c6]; omega)
    rw [c6, ← HEQ.out] at HC
    have HC := hide HC
    go_wp2_with fail
    refine HC.out.mono ?_
    rintro e w12 ⟨v7, rfl, o7, hb12⟩
    clear HC
    obtain ⟨A7, e7, rfl⟩ := o7.form
    have hs12 := hb12.size
    have o2 := o2.below hb12 (by omega)
    have o4 := o4.below hb12 (by omega)
    have o6 := o6.below hb12 (by omega)
    have RI := RI.below (Below.mono hb12 (by omega))
    have hT12 := below_then hT11 hb12
    clear hT11 hb12
    clear o6
    go_wp2_with fail
    refine (eqEdgeS_any A7 A2 el.length e7 e2 w12.heap.size el w12 rfl (o7.rdB (by omega)) (o2.rdB (by omega)) (Nat.le_refl _) (by omega) HWE.out).mono ?_
    rintro e w13 ⟨rfl, hb13⟩
    have hs13 := hb13.size
    have o2 := o2.below hb13 (by omega)
    have o4 := o4.below hb13 (by omega)
    have o7 := o7.below hb13 (by omega)
    have RI := RI.below (Below.mono hb13 (by omega))
    have hT13 := below_then hT12 hb13
    clear hT12 hb13
    go_wp2_with fail
    refine (heldEdgeS_any A4 el.length e4 1 w13.heap.size w13 (o4.rdB (by omega)) (by omega) (by omega)).mono ?_
    rintro e w' ⟨he, rfl⟩
    rw [← HK.out] at he
    subst he
    go_wp2_with fail
    go_ret
    exact ⟨rfl, hT13⟩
  · rw [szR_no (by omega)] at HSZ
    clear h0
    go_enter Try.func4, Try.ntmps4
    go_wp2_with fail
    refine HSZ.out.mono ?_
    rintro e w' ⟨rfl, rfl⟩
    go_wp2_with fail
    go_ret
    exact ⟨rfl, Below.refl _ _⟩
end Go.Proofs.Ytdcceppednngjaa
