/-
  The texts RatI4, put together; each has its own heading below. No condition of ours.
-/
import Derived.Test.YtdcceppednngjabRK
import Derived.Test.YtdcceppednngjabBX
/-
  The program's fractions: contracts (4): numeratorOverBoth, compare, negated, copied.
-/



namespace Go.Proofs.Ytdcceppednngjab
open Go.RowKit
set_option linter.unusedVariables false
set_option maxHeartbeats 1600000 in
theorem impl_numeratorOverBoth (w : World) (B : Nat) (hB : B ≤ w.heap.size) (s : Bool) (A : Option Addr) (n c : Nat) (xs : List Int) (Rx : RdI w B A n xs) (D : Option Addr) (m k : Nat) (ds : List Int) (Rd' : RdI w B D m ds) (t : Bool) (A' : Option Addr) (n' c' : Nat) (ys : List Int) (Ry : RdI w B A' n' ys) (D' : Option Addr) (m' k' : Nat) (es : List Int) (Re' : RdI w B D' m' es) :
    Calls Try.prog 49 #[.agg #[.bool s, .slice A n c, .slice D m k], .agg #[.bool t, .slice A' n' c', .slice D' m' k']] w fun e w' => ∃ v, e = .returned (.agg #[.bool (mulZ s xs false es).1, v]) ∧ Own w' w.heap.size w'.heap.size 3 v (mulZ s xs false es).2.length (iv (mulZ s xs false es).2) ∧ Below w.heap.size w w' := by
  obtain ⟨W0, hW0⟩ : ∃ W0, W0 = (((w.alloc (.cells #[.bool s, .slice A n c, .slice D m k] 32)).alloc (.cells #[.bool t, .slice A' n' c', .slice D' m' k'] 32)).alloc (.cells #[.bool false, .slice none 0 0] 30)) := ⟨_, rfl⟩
  have hb0 : Below w.heap.size w W0 := by rw [hW0]; exact below_alloc (below_alloc (below_new _ _) _) _
  have kx : Box W0 (w.heap.size) 32 #[.bool s, .slice A n c, .slice D m k] := by rw [hW0]; exact ((Box.last _ _ _ rfl).alloc _).alloc _
  have ky : Box W0 (w.heap.size + 1) 32 #[.bool t, .slice A' n' c', .slice D' m' k'] := by rw [hW0]; exact (Box.last _ _ _ (alloc_size _ _).symm).alloc _
  have kr : Box W0 (w.heap.size + 2) 30 #[.bool false, .slice none 0 0] := by rw [hW0]; exact Box.last _ _ _ (by rw [alloc_size, alloc_size])
  have hs0 : W0.heap.size = w.heap.size + 3 := by rw [hW0, alloc_size, alloc_size, alloc_size]
  go_enter Try.func49, Try.ntmps49
  go_upto_region 1 with fail
  rw [← hW0]
  clear hW0
  obtain ⟨a0, a1, a2⟩ := kx.cells3
  obtain ⟨b0, b1, b2⟩ := ky.cells3
  go_wp2_with fail
  refine (impl_BigIntMul W0 B (by omega) s A n c xs (Rx.below (hb0.mono hB)) false D' m' k' es (Re'.below (hb0.mono hB))).mono ?_
  rintro e w1 ⟨v1, rfl, o1, hb1⟩
  obtain ⟨A1, c1, rfl⟩ := o1.form
  have kr1 := kr.below hb1 kr.lt
  have hb1' := below_then hb0 hb1
  obtain ⟨z0, z1, z2, z3⟩ := kr1.facts
  have HO := hide (ret_big (x := .bool (mulZ s xs false es).1) kr1 o1 hb1' (show w.heap.size ≤ w.heap.size + 2 by omega) (by omega) (Nat.le_refl _))
  clear kr1 o1 hb1' kx ky kr hb0 hb1 a0 a1 a2 b0 b1 b2
  go_wp2_with fail
  refine bodyPost_ret (results_cell_row rfl _ _ (w.heap.size + 2) _ #[.bool (mulZ s xs false es).1, .slice A1 (mulZ s xs false es).2.length c1] (0, 0) _ rfl HO.out.1 Try.underlying30 rfl Try.sizeBig) rfl ?_
  exact ⟨_, rfl, HO.out.2.1, HO.out.2.2⟩
set_option maxHeartbeats 3200000 in
theorem impl_ratCompare (w : World) (B : Nat) (hB : B ≤ w.heap.size) (s : Bool) (A : Option Addr) (n c : Nat) (xs : List Int) (Rx : RdI w B A n xs) (D : Option Addr) (m k : Nat) (ds : List Int) (Rd' : RdI w B D m ds) (hr : ratB s xs ds = true) (t : Bool) (A' : Option Addr) (n' c' : Nat) (ys : List Int) (Ry : RdI w B A' n' ys) (D' : Option Addr) (m' k' : Nat) (es : List Int) (Re' : RdI w B D' m' es) (hq : ratB t ys es = true) :
    Calls Try.prog 25 #[.agg #[.bool s, .slice A n c, .slice D m k], .agg #[.bool t, .slice A' n' c', .slice D' m' k']] w fun e w' => e = .returned (.int .i64 (cmpW s xs ds t ys es)) ∧ Below w.heap.size w w' := by
  have hz := cmp_ok hr hq
  rw [← hz]
  clear hz hr hq
  obtain ⟨W0, hW0⟩ : ∃ W0, W0 = ((w.alloc (.cells #[.bool s, .slice A n c, .slice D m k] 32)).alloc (.cells #[.bool t, .slice A' n' c', .slice D' m' k'] 32)) := ⟨_, rfl⟩
  have hb0 : Below w.heap.size w W0 := by rw [hW0]; exact below_alloc (below_new _ _) _
  have kx : Box W0 (w.heap.size) 32 #[.bool s, .slice A n c, .slice D m k] := by rw [hW0]; exact (Box.last _ _ _ rfl).alloc _
  have ky : Box W0 (w.heap.size + 1) 32 #[.bool t, .slice A' n' c', .slice D' m' k'] := by rw [hW0]; exact Box.last _ _ _ (alloc_size _ _).symm
  have hs0 : W0.heap.size = w.heap.size + 2 := by rw [hW0, alloc_size, alloc_size]
  have HX := hide kx
  have HY := hide ky
  have RX := Rx.below (hb0.mono hB)
  have RD := Rd'.below (hb0.mono hB)
  have RY := Ry.below (hb0.mono hB)
  have RE := Re'.below (hb0.mono hB)
  have HC1 := hide (fun (W : World) (h : Below W0.heap.size W0 W) => impl_numeratorOverBoth W B (by have := h.size; omega) s A n c xs (RX.below (h.mono (by omega))) D m k ds (RD.below (h.mono (by omega))) t A' n' c' ys (RY.below (h.mono (by omega))) D' m' k' es (RE.below (h.mono (by omega))))
  have HC2 := hide (fun (W : World) (h : Below W0.heap.size W0 W) => impl_numeratorOverBoth W B (by have := h.size; omega) t A' n' c' ys (RY.below (h.mono (by omega))) D' m' k' es (RE.below (h.mono (by omega))) s A n c xs (RX.below (h.mono (by omega))) D m k ds (RD.below (h.mono (by omega))))
  have l1 := mulZ_len s xs false es
  have l2 := mulZ_len t ys false ds
  have q1 := mulZ_limbs s xs false es
  have q2 := mulZ_limbs t ys false ds
  have HC3 := hide (fun (W : World) (A1 A2 : Option Addr) (c1 c2 : Nat) (R1 : RdI W W.heap.size A1 (mulZ s xs false es).2.length (mulZ s xs false es).2) (R2 : RdI W W.heap.size A2 (mulZ t ys false ds).2.length (mulZ t ys false ds).2) => impl_BigIntCmp W W.heap.size (Nat.le_refl _) (mulZ s xs false es).1 A1 _ c1 (mulZ s xs false es).2 R1 (mulZ t ys false ds).1 A2 _ c2 (mulZ t ys false ds).2 R2)
  have HL1 := hide l1
  have HL2 := hide l2
  have HQ1 := hide q1
  have HQ2 := hide q2
  clear RX RD RY RE l1 l2 q1 q2
  clear kx ky
  obtain ⟨a0, a1, a2⟩ := HX.out.cells3
  obtain ⟨b0, b1, b2⟩ := HY.out.cells3
  have HS0 : Hid (Below W0.heap.size W0 W0.drew) := (Below.refl _ _).drew
  have HKS := hide (fun (W : World) (hq : Below W0.heap.size W0 W) => (⟨(HX.out.below hq HX.out.lt).cell 0, (HX.out.below hq HX.out.lt).cell 1, (HX.out.below hq HX.out.lt).cell 2, (HY.out.below hq HY.out.lt).cell 0, (HY.out.below hq HY.out.lt).cell 1, (HY.out.below hq HY.out.lt).cell 2⟩ : W.cell? ⟨w.heap.size, 0, none⟩ = some (.bool s) ∧ W.cell? ⟨w.heap.size, 1, none⟩ = some (.slice A n c) ∧ W.cell? ⟨w.heap.size, 2, none⟩ = some (.slice D m k) ∧ W.cell? ⟨w.heap.size + 1, 0, none⟩ = some (.bool t) ∧ W.cell? ⟨w.heap.size + 1, 1, none⟩ = some (.slice A' n' c') ∧ W.cell? ⟨w.heap.size + 1, 2, none⟩ = some (.slice D' m' k')))
  go_enter Try.func25, Try.ntmps25
  go_upto_region 1 with fail
  rw [← hW0]
  clear hW0
  go_region_held3 (fun w' => w'.cell? ⟨w.heap.size, 0, none⟩ = some (.bool s) ∧ w'.cell? ⟨w.heap.size, 1, none⟩ = some (.slice A n c) ∧ w'.cell? ⟨w.heap.size, 2, none⟩ = some (.slice D m k) ∧ w'.cell? ⟨w.heap.size + 1, 0, none⟩ = some (.bool t) ∧ w'.cell? ⟨w.heap.size + 1, 1, none⟩ = some (.slice A' n' c') ∧ w'.cell? ⟨w.heap.size + 1, 2, none⟩ = some (.slice D' m' k'))
      (first | (with_reducible exact HKS.out _ HS3.out) | (with_reducible exact HKS.out _ HS2.out) | (with_reducible exact HKS.out _ HS1.out) | (with_reducible exact HKS.out _ HS0.out))
      (first
        | (go_at_call_has 49 [Value.agg #[Value.bool s, Value.slice A n c, Value.slice D m k], Value.agg #[Value.bool t, Value.slice A' n' c', Value.slice D' m' k']]; refine (HC1.out _ HS0.out).mono ?_; rintro e w1 ⟨v1, rfl, o1, hb1⟩; obtain ⟨A1, c1, rfl⟩ := o1.form; have HS1n := hide o1; have HS1 := hide (below_then HS0.out hb1))
        | (go_at_call_has 49 [Value.agg #[Value.bool t, Value.slice A' n' c', Value.slice D' m' k'], Value.agg #[Value.bool s, Value.slice A n c, Value.slice D m k]]; refine (HC2.out _ HS1.out).mono ?_; rintro e w2 ⟨v2, rfl, o2, hb2⟩; obtain ⟨A2, c2, rfl⟩ := o2.form; have r1 := RdI.of_own (HS1n.out.below hb2 (Nat.le_refl _)) HL1.out HQ1.out; have r2 := RdI.of_own o2 HL2.out HQ2.out; have HS2 := hide (below_then HS1.out hb2))
        | (go_at_call 48; refine (HC3.out _ _ _ _ _ r1 r2).mono ?_; rintro e w3 ⟨rfl, hb3⟩; have HS3 := hide (below_then HS2.out hb3)))
  have hb3' := below_then hb0 HS3.out
  go_wp2_with fail
  go_ret
  exact ⟨rfl, hb3'⟩
end Go.Proofs.Ytdcceppednngjab
