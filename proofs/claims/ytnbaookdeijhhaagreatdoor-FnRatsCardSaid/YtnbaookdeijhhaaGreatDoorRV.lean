/-
  The texts RatR3, RatR4, put together; each has its own heading below. No condition of ours.
-/
import Derived.Test.YtnbaookdeijhhaaGreatDoorRL
import Derived.Test.YtnbaookdeijhhaaGreatDoorBQR
import Derived.Test.YtnbaookdeijhhaaGreatDoorPB
/-
  The reference's fractions: contracts (3): RatMake, RatOf, RatFromInt.
-/


namespace Go.Proofs.YtnbaookdeijhhaaGreatDoor
open Go.RowKit
set_option linter.unusedVariables false
theorem makeR_ref {s t : Bool} {xs ys : List Int} (h : bigB s xs = true) (k : bigB t ys = true) : makeR s xs t ys = lowR (zv (s != t) xs) (natV ys) := by
  rw [makeR, h, k]
  cases s <;> cases t <;> simp [zv]
set_option maxHeartbeats 3200000 in
theorem spec_RatMake (w : World) (B : Nat) (hB : B ≤ w.heap.size) (s : Bool) (A : Option Addr) (n c : Nat) (xs : List Int) (Rx : RdI w B A n xs) (hcx : n ≤ c ∧ c ≤ maxLen) (t : Bool) (A' : Option Addr) (n' c' : Nat) (ys : List Int) (Ry : RdI w B A' n' ys) (hcy : n' ≤ c' ∧ c' ≤ maxLen) :
    Calls Tryz.prog 128 #[.agg #[.bool s, .slice A n c], .agg #[.bool t, .slice A' n' c']] w fun e w' => RatRes 3 w w' e (makeR s xs t ys) := by
  have HNO := hide (makeR_no (s := s) (t := t) (xs := xs) (ys := ys))
  have HOK := hide (makeR_ref (s := s) (t := t) (xs := xs) (ys := ys))
  generalize makeR s xs t ys = Z at HNO HOK ⊢
  obtain ⟨W0, hW0⟩ : ∃ W0, W0 = (((w.alloc (.cells #[.bool s, .slice A n c] 25)).alloc (.cells #[.bool t, .slice A' n' c'] 25)).alloc (.cells #[.bool false, .slice none 0 0, .slice none 0 0] 27)) := ⟨_, rfl⟩
  have hb0 : Below w.heap.size w W0 := by rw [hW0]; exact below_alloc (below_alloc (below_new _ _) _) _
  have kx : Box W0 (w.heap.size) 25 #[.bool s, .slice A n c] := by rw [hW0]; exact ((Box.last _ _ _ rfl).alloc _).alloc _
  have ky : Box W0 (w.heap.size + 1) 25 #[.bool t, .slice A' n' c'] := by rw [hW0]; exact (Box.last _ _ _ (alloc_size _ _).symm).alloc _
  have kr : Box W0 (w.heap.size + 2) 27 #[.bool false, .slice none 0 0, .slice none 0 0] := by rw [hW0]; exact Box.last _ _ _ (by rw [alloc_size, alloc_size])
  have hs0 : W0.heap.size = w.heap.size + 3 := by rw [hW0, alloc_size, alloc_size, alloc_size]
  go_enter Tryz.func128, Tryz.ntmps128
  go_upto_region 1 with fail
  rw [← hW0]
  clear hW0
  obtain ⟨a0, a1⟩ := kx.cells2
  obtain ⟨b0, b1⟩ := ky.cells2
  go_wp2_with fail
  refine (spec_BigIntOk W0 B (by omega) s A n c xs (Rx.below (hb0.mono hB))).mono ?_
  rintro e w1 ⟨rfl, hb1⟩
  have kx1 := kx.below hb1 kx.lt
  have ky1 := ky.below hb1 ky.lt
  have kr1 := kr.below hb1 kr.lt
  have hs1 := hb1.size
  have hb1' := below_then hb0 hb1
  clear a0 a1 b0 b1 kx ky kr hb0 hb1
  by_cases hv : bigB s xs = true
  · rw [hv]
    obtain ⟨a0, a1⟩ := kx1.cells2
    obtain ⟨b0, b1⟩ := ky1.cells2
    go_wp2_with fail
    refine (spec_BigIntOk w1 B (by omega) t A' n' c' ys (Ry.below (hb1'.mono hB))).mono ?_
    rintro e w2 ⟨rfl, hb2⟩
    have kx2 := kx1.below hb2 kx1.lt
    have ky2 := ky1.below hb2 ky1.lt
    have kr2 := kr1.below hb2 kr1.lt
    have hs2 := hb2.size
    have hb2' := below_then hb1' hb2
    clear a0 a1 b0 b1 kx1 ky1 kr1 hb1' hb2
    by_cases hu : bigB t ys = true
    · rw [hu]
      have hz := HOK.out hv hu
      subst hz
      obtain ⟨a0, a1⟩ := kx2.cells2
      obtain ⟨b0, b1⟩ := ky2.cells2
      have HCP := hide (spec_Low w2 B (by omega) (s != t) A n c xs (Rx.below (hb2'.mono hB)) hcx (bigB_nat hv) A' n' c' ys (Ry.below (hb2'.mono hB)) hcy (bigB_nat hu))
      clear HNO HOK hv hu hcx hcy
      go_wp2_with fail
      refine (HCP.out).mono ?_
      rintro e w3 ⟨v3, d3, rfl, p3, hb3⟩
      obtain ⟨A3, c3, K3, k3, rfl, rfl⟩ := p3.form
      have kr3 := kr2.below hb3 kr2.lt
      have hb3' := below_then hb2' hb3
      obtain ⟨z0, z1, z2, z3, z4, z5⟩ := kr3.facts3
      have HO := hide (ret_rat kr3 p3 hb3' (x := (lowR (zv (s != t) xs) (natV ys)).1.1) (show w.heap.size ≤ w.heap.size + 2 by omega) (by omega))
      clear kr3 p3 hb3' hb3 kr2 HCP
      go_wp2_with fail
      refine bodyPost_ret (results_cell_row rfl _ _ (w.heap.size + 2) _ #[.bool (lowR (zv (s != t) xs) (natV ys)).1.1, .slice A3 (lowR (zv (s != t) xs) (natV ys)).1.2.length c3, .slice K3 (lowR (zv (s != t) xs) (natV ys)).2.length k3] (0, 0) _ rfl HO.out.1 Tryz.underlying27 rfl Tryz.sizeRat) rfl ?_
      exact ⟨_, _, rfl, HO.out.2.1, HO.out.2.2⟩
    · have hu : bigB t ys = false := by simpa using hu
      have hz := HNO.out (.inr (.inl hu))
      subst hz
      rw [hu]
      clear HNO HOK hcx hcy
      have HO := hide (ret_rat0 (F := 3) kr2 hb2' (show w.heap.size ≤ w.heap.size + 2 by omega))
      obtain ⟨z0, z1, z2, z3, z4, z5⟩ := kr2.facts3
      clear kr2 hb2'
      go_wp2_with fail
      refine bodyPost_ret (results_cell_row rfl _ _ (w.heap.size + 2) _ #[.bool false, .slice none 0 0, .slice none 0 0] (0, 0) _ rfl HO.out.1 Tryz.underlying27 rfl Tryz.sizeRat) rfl ?_
      exact ⟨_, _, rfl, HO.out.2.1, HO.out.2.2⟩
  · have hv : bigB s xs = false := by simpa using hv
    have hz := HNO.out (.inl hv)
    subst hz
    rw [hv]
    clear HNO HOK hcx hcy
    have HO := hide (ret_rat0 (F := 3) kr1 hb1' (show w.heap.size ≤ w.heap.size + 2 by omega))
    obtain ⟨z0, z1, z2, z3, z4, z5⟩ := kr1.facts3
    clear kr1 hb1'
    go_wp2_with fail
    refine bodyPost_ret (results_cell_row rfl _ _ (w.heap.size + 2) _ #[.bool false, .slice none 0 0, .slice none 0 0] (0, 0) _ rfl HO.out.1 Tryz.underlying27 rfl Tryz.sizeRat) rfl ?_
    exact ⟨_, _, rfl, HO.out.2.1, HO.out.2.2⟩
set_option maxHeartbeats 1600000 in
theorem spec_RatOf (w : World) (n m : Int) (hn : (Lit.int .i64 n).wf = true) (hm : (Lit.int .i64 m).wf = true) :
    Calls Tryz.prog 76 #[.int .i64 n, .int .i64 m] w fun e w' => RatRes 3 w w' e (makeR (capZ n).1 (capZ n).2 (capZ m).1 (capZ m).2) := by
  have l1 := ofZ_len n
  have l2 := ofZ_len m
  have q1 := capZ_limbs n
  have q2 := capZ_limbs m
  obtain ⟨W0, hW0⟩ : ∃ W0, W0 = (w.alloc (.cells #[.bool false, .slice none 0 0, .slice none 0 0] 27)) := ⟨_, rfl⟩
  have hb0 : Below w.heap.size w W0 := by rw [hW0]; exact below_new _ _
  have kr : Box W0 (w.heap.size) 27 #[.bool false, .slice none 0 0, .slice none 0 0] := by rw [hW0]; exact Box.last _ _ _ rfl
  have hs0 : W0.heap.size = w.heap.size + 1 := by rw [hW0, alloc_size]
  have HC1 := hide (spec_BigIntOf W0 W0.heap.size (Nat.le_refl _) n hn)
  have HC2 := hide (fun (W : World) => spec_BigIntOf W W.heap.size (Nat.le_refl _) m hm)
  clear hn hm
  generalize capZ n = N at *
  generalize capZ m = M at *
  go_enter Tryz.func76, Tryz.ntmps76
  go_upto_region 1 with fail
  rw [← hW0]
  clear hW0
  go_wp2_with fail
  refine HC1.out.mono ?_
  rintro e w1 ⟨v1, rfl, o1, hb1⟩
  obtain ⟨A1, c1, rfl⟩ := o1.form
  have hs1 := hb1.size
  go_wp2_with fail
  refine (HC2.out w1).mono ?_
  rintro e w2 ⟨v2, rfl, o2, hb2⟩
  obtain ⟨A2, c2, rfl⟩ := o2.form
  have hs2 := hb2.size
  have cp1 := hide o1.cap
  have cp2 := hide o2.cap
  have R1 := RdI.of_own (o1.below hb2 (Nat.le_refl _)) l1 q1
  have R2 := RdI.of_own o2 l2 q2
  have hb2' := below_then (below_then hb0 hb1) hb2
  have kr2 := (kr.below hb1 kr.lt).below hb2 (kr.below hb1 kr.lt).lt
  clear o1 o2 hb1 hb2 hb0 kr HC1 HC2
  go_wp2_with fail
  refine (spec_RatMake w2 w2.heap.size (Nat.le_refl _) N.1 A1 _ c1 N.2 R1 cp1.out M.1 A2 _ c2 M.2 R2 cp2.out).mono ?_
  rintro e w3 ⟨v3, d3, rfl, p3, hb3⟩
  obtain ⟨A3, c3, K3, k3, rfl, rfl⟩ := p3.form
  have kr3 := kr2.below hb3 kr2.lt
  have hb3' := below_then hb2' hb3
  obtain ⟨z0, z1, z2, z3, z4, z5⟩ := kr3.facts3
  have HO := hide (ret_rat kr3 p3 hb3' (x := (makeR N.1 N.2 M.1 M.2).1.1) (show w.heap.size ≤ w.heap.size by omega) (by omega))
  clear kr3 p3 hb3' hb3 kr2 R1 R2
  go_wp2_with fail
  refine bodyPost_ret (results_cell_row rfl _ _ (w.heap.size) _ #[.bool (makeR N.1 N.2 M.1 M.2).1.1, .slice A3 (makeR N.1 N.2 M.1 M.2).1.2.length c3, .slice K3 (makeR N.1 N.2 M.1 M.2).2.length k3] (0, 0) _ rfl HO.out.1 Tryz.underlying27 rfl Tryz.sizeRat) rfl ?_
  exact ⟨_, _, rfl, HO.out.2.1, HO.out.2.2⟩
end Go.Proofs.YtnbaookdeijhhaaGreatDoor

/-
  The reference's fractions: contracts (4): l04Copy, l04Neg.
-/


namespace Go.Proofs.YtnbaookdeijhhaaGreatDoor
open Go.RowKit
set_option linter.unusedVariables false
section
variable {w w' : World} {B B' g : Nat} {E : TypeId} {v1 v2 : Value} {xs ys : List Int}
theorem Both.below (h : Both w B E v1 xs v2 ys) (hb : Below w.heap.size w w') : Both w' B E v1 xs v2 ys :=
  ⟨(h.1.below hb (Nat.le_refl _)).wider (Nat.le_refl _) hb.size, (h.2.below hb (Nat.le_refl _)).wider (Nat.le_refl _) hb.size⟩
theorem Both.form (h : Both w B E v1 xs v2 ys) : ∃ A1 c1 A2 c2, v1 = .slice A1 xs.length c1 ∧ v2 = .slice A2 ys.length c2 := by
  obtain ⟨A1, c1, e1⟩ := h.1.form
  obtain ⟨A2, c2, e2⟩ := h.2.form
  exact ⟨A1, c1, A2, c2, e1, e2⟩
theorem Both.rd {A1 A2 : Option Addr} {c1 c2 : Nat} (h : Both w B E (.slice A1 xs.length c1) xs (.slice A2 ys.length c2) ys) : Rd w w.heap.size A1 (iv xs) ∧ Rd w w.heap.size A2 (iv ys) := ⟨h.1.rd, h.2.rd⟩
end
end Go.Proofs.YtnbaookdeijhhaaGreatDoor
