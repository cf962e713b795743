/-
  The program's hulls: contracts: HullOf.
-/
import Derived.Test.YtocllmaikngoaaaDoorHulI
import Derived.Test.YtocllmaikngoaaaDoorSV
import Derived.Test.YtocllmaikngoaaaDoorPolI3
namespace Go.Proofs.YtocllmaikngoaaaDoor
open Go.RowKit
set_option linter.unusedVariables false
set_option maxRecDepth 100000 in
set_option maxHeartbeats 3200000 in
theorem impl_HullOf (w : World) (B : Nat) (hB : B ≤ w.heap.size) (A : Option Addr) (n c : Nat) (l : List V2) (R : RdV w B A n l) :
    Calls Tryd.prog 68 #[.slice A n c] w fun e w' => ∃ v, e = .returned v ∧ OwnV w' w.heap.size w'.heap.size 31 v (hullV l).length (hullV l) ∧ Below w.heap.size w w' := by
  have HA := hide (fun (W : World) (hb : Below B w W) => impl_areValidVecs W B (Nat.le_trans hB hb.size) A n c l ⟨R.1, R.2.1.below hb, R.2.2.1, R.2.2.2⟩)
  have HCl := hide (fun (W : World) (hb : Below B w W) => impl_Clone W B (Nat.le_trans hB hb.size) A n c l ⟨R.1, R.2.1.below hb, R.2.2.1, R.2.2.2⟩)
  obtain ⟨hn, hx, hl, hwf⟩ := R
  by_cases h64 : 64 < n
  · have HN : Hid (hullV l = []) := by show _ = _; unfold hullV; rw [if_neg]; intro h; have := h.1; omega
    clear hx HA HCl
    go_enter Tryd.func68, Tryd.ntmps68
    go_wp2_with fail
    go_ret
    exact ⟨_, rfl, by rw [HN.out]; exact OwnV.nil _ _ _ _, by first | exact Below.refl _ _ | exact (Below.refl _ _).drew⟩
  have hi64 : ¬ ((64 : Int) < (n : Int)) := by omega
  clear hx
  go_enter Tryd.func68, Tryd.ntmps68
  go_wp2_with fail
  refine (HA.out _ (by first | exact Below.refl _ _ | exact (Below.refl _ _).drew)).mono ?_
  rintro e w1 ⟨rfl, hb1⟩
  have hb1 : Below w.heap.size w w1 := by first | exact hb1 | exact undrew hb1
  by_cases ev : allV l = true
  case neg =>
    have ev : allV l = false := by simpa using ev
    have HN : Hid (hullV l = []) := by show _ = _; unfold hullV; rw [if_neg]; intro h; rw [h.2] at ev; cases ev
    rw [ev]
    go_wp2_with fail
    go_ret
    exact ⟨_, rfl, by rw [HN.out]; exact OwnV.nil _ _ _ _, by first | exact hb1 | exact hb1.drew⟩
  have HV := hide ev
  rw [ev]
  have HH : Hid (hullV l = hul2 (srtV l)) := by show _ = _; unfold hullV; rw [if_pos ⟨by omega, HV.out⟩]
  clear ev
  go_wp2_with fail
  refine (HCl.out _ (by first | exact hb1.mono hB | exact (hb1.mono hB).drew)).mono ?_
  rintro e w2 ⟨v2, rfl, o2, hb2⟩
  have hb2 : Below w1.heap.size w1 w2 := by first | exact hb2 | exact undrew hb2
  have o2 : OwnV w2 w1.heap.size w2.heap.size 31 v2 n l := o2
  have hs1 := hb1.size
  have hs2 := hb2.size
  clear HA HCl
  obtain ⟨A2, c2, rfl⟩ := o2.form
  have kp : Box (w2.alloc (.cells #[.slice A2 n c2] 29)) w2.heap.size 29 #[.slice A2 n c2] := Box.last _ _ _ rfl
  have hb3 : Below w2.heap.size w2 (w2.alloc (.cells #[.slice A2 n c2] 29)) := below_new _ _
  have o3 := o2.below hb3 (Nat.le_refl _)
  obtain ⟨W3, hW3⟩ : ∃ W3, W3 = w2.alloc (.cells #[.slice A2 n c2] 29) := ⟨_, rfl⟩
  rw [← hW3] at kp hb3 o3
  go_upto_region 4 with fail
  rw [← hW3]
  have hs3 : W3.heap.size = w2.heap.size + 1 := by rw [hW3, alloc_size]
  have HB3 := hide ((hb1.trans (hb2.mono hs1)).trans (hb3.mono (Nat.le_trans hs1 hs2)))
  clear hW3 hb3 o2 hb1 hb2
  have hn20 : n ≤ 1048576 := hl
  have HSo := hide (impl_Sort W3 w1.heap.size w2.heap.size 31 A2 n c2 l o3 hn20)
  have HSo' := hide (impl_Sort W3.drew w1.heap.size w2.heap.size 31 A2 n c2 l o3 hn20)
  have yp0 := kp.cell 0
  simp only [List.getElem?_toArray, List.getElem?_cons_zero] at yp0
  go_wp2_with fail
  refine (by first | exact HSo.out | exact HSo'.out : Calls _ _ _ _ _).mono ?_
  rintro e w4 ⟨rfl, ss, o4, hasc, hmem, as4⟩
  have as4 : Aside w1.heap.size w2.heap.size W3 w4 := by first | exact as4 | exact ⟨as4.os, as4.tape, as4.output, as4.size, as4.block⟩
  have kp4 := kp.aside as4 (.inr (Nat.le_refl _))
  clear yp0 HSo HSo'
  have HCo := hide (impl_Compact w4 w1.heap.size w2.heap.size 31 A2 n c2 ss o4 hasc hn20)
  have HCo' := hide (impl_Compact w4.drew w1.heap.size w2.heap.size 31 A2 n c2 ss o4 hasc hn20)
  have yp0 := kp4.cell 0
  simp only [List.getElem?_toArray, List.getElem?_cons_zero] at yp0
  go_wp2_with fail
  refine (by first | exact HCo.out | exact HCo'.out : Calls _ _ _ _ _).mono ?_
  rintro e w5 ⟨k, ys, rfl, o5, hys, hm5, as5⟩
  have as5 : Aside w1.heap.size w2.heap.size w4 w5 := by first | exact as5 | exact ⟨as5.os, as5.tape, as5.output, as5.size, as5.block⟩
  have HY : Hid (ys = srtV l) := srtV_of hys fun a => (hm5 a).trans (hmem a)
  have kp5 := kp4.aside as5 (.inr (Nat.le_refl _))
  have HA35 := hide (as4.trans as5)
  have hs35 := HA35.out.size
  clear yp0 HCo HCo' kp kp4 hmem hm5 hasc o3 o4 as4 as5
  have yp0 := kp5.cell 0
  have fp0 := kp5.frozen 0
  simp only [List.getElem?_toArray, List.getElem?_cons_zero] at yp0
  have kp6 := kp5.set 0 (.slice A2 k c2)
  simp only [List.setIfInBounds_toArray, List.set_cons_zero] at kp6
  obtain ⟨W6, hW6⟩ : ∃ W6, W6 = w5.setCell ⟨w2.heap.size, 0, none⟩ (.slice A2 k c2) := ⟨_, rfl⟩
  have hA6 : Aside w2.heap.size (w2.heap.size + 1) w5 W6 := by rw [hW6]; exact (Aside.refl w5).setCell (a := ⟨w2.heap.size, 0, none⟩) (Nat.le_refl _) (Nat.lt_succ_self _) _
  have hs6 : W6.heap.size = w5.heap.size := by rw [hW6, setCell_size]
  rw [← hW6] at kp6
  have o6 := o5.aside hA6 (.inl (Nat.le_refl _))
  go_upto_region 6 with fail
  rw [← hW6]
  clear hW6 yp0 fp0 kp5 o5
  have yp0 := kp6.cell 0
  simp only [List.getElem?_toArray, List.getElem?_cons_zero] at yp0
  have hlen := o6.len
  have HB6 : Hid (Below w.heap.size w W6) := by
    show Below _ _ _
    exact HB3.out.trans (((HA35.out.wide (Nat.le_refl _) (Nat.le_succ _)).trans (hA6.wide (by omega) (Nat.le_refl _))).below hs1 HB3.out.size)
  have hs6a : w2.heap.size + 1 ≤ W6.heap.size := by omega
  clear hs6 hs3 hs35
  by_cases hk2 : k < 2
  · have HR : Hid (hullV l = ys) := by show _ = _; rw [HH.out, ← HY.out]; unfold hul2; rw [if_pos (by omega)]
    have hk2i : (k : Int) < 2 := by omega
    go_wp2_with fail
    go_ret
    refine ⟨_, rfl, ?_, by first | exact HB6.out | exact HB6.out.drew⟩
    rw [HR.out, hlen]
    exact o6.wider hs1 (by show _ ≤ W6.heap.size; omega)
  have hk2i : ¬ ((k : Int) < 2) := by omega
  obtain ⟨gp, rfl⟩ : ∃ g, A2 = some ⟨g, 0, none⟩ := by
    rcases own_form o6.1 with ⟨_, h0, _⟩ | ⟨g, c', h1, _, _⟩
    · omega
    · injection h1 with e1 _ _; exact ⟨g, e1⟩
  have HX : Hid (hullV l = (chain ys).tail.reverse ++ (chain ys.reverse).tail.reverse) := by
    show _ = _
    rw [HH.out, ← HY.out]; unfold hul2; rw [if_neg (by omega)]; rfl
  have HYm : Hid (∀ x ∈ ys, x ∈ l) := fun x hx => by rw [HY.out] at hx; exact (srtV_mem l x).1 hx
  have hk64 : k ≤ 64 := by have := srtV_len l; rw [← HY.out] at this; omega
  have hys1 : ∀ x ∈ ys, vecV x = true := fun x hx => allV_sub HV.out (fun y hy => HYm.out y hy) x hx
  have hys2 : wfV ys := fun x hx => hwf x (HYm.out x hx)
  have hyr1 : ∀ x ∈ ys.reverse, vecV x = true := fun x hx => hys1 x (List.mem_reverse.1 hx)
  have hyr2 : wfV ys.reverse := fun x hx => hys2 x (List.mem_reverse.1 hx)
  have kh7 : Box (W6.alloc (.cells #[.slice none 0 0] 29)) W6.heap.size 29 #[.slice none 0 0] := Box.last _ _ _ rfl
  have hb7 : Below W6.heap.size W6 (W6.alloc (.cells #[.slice none 0 0] 29)) := below_new _ _
  obtain ⟨W7, hW7⟩ : ∃ W7, W7 = W6.alloc (.cells #[.slice none 0 0] 29) := ⟨_, rfl⟩
  have hs7 : W6.heap.size + 1 ≤ W7.heap.size := by rw [hW7, alloc_size]; omega
  rw [← hW7] at kh7 hb7
  have kp7 := kp6.below hb7 kp6.lt
  have o7 := o6.below hb7 (by omega)
  go_upto_region 9 with fail
  rw [← hW7]
  clear hW7 yp0
  have HK1 := hide (impl_addChain W7 W6.heap.size w2.heap.size gp k c2 none 0 0 [] ys kh7 (OwnV.nil _ _ _ _) kp7 (by omega) ⟨hlen, o7.rdB (by omega), by omega, hys2⟩ hys1 (by omega) (by omega) (by omega))
  have HK1' := hide (impl_addChain W7.drew W6.heap.size w2.heap.size gp k c2 none 0 0 [] ys kh7 (OwnV.nil _ _ _ _) kp7 (by show _ < _; omega) ⟨hlen, o7.rdB (by omega), by omega, hys2⟩ hys1 (by omega) (by omega) (by omega))
  go_wp2_with fail
  refine (by first | exact HK1.out | exact HK1'.out : Calls _ _ _ _ _).mono ?_
  rintro e w8 ⟨rfl, A8, n8, c8, hn8, kh8, oh8, hb8⟩
  have hb8 : Below W6.heap.size W7 w8 := by first | exact hb8 | exact undrew hb8
  rw [List.nil_append] at hn8 oh8
  have hs8 := hb8.size
  have kp8 := kp7.below hb8 (by omega)
  have o8 := o7.below hb8 (by omega)
  have hn8' : n8 ≤ 1000 := by rw [hn8]; have := chain_len ys; simp; omega
  have HN8 := hide hn8
  clear HK1 HK1' kp7 o7 kh7 kp6 o6 hn8
  have HRv := hide (impl_Rev w8 w1.heap.size w2.heap.size 31 gp k c2 ys o8 (by omega))
  have HRv' := hide (impl_Rev w8.drew w1.heap.size w2.heap.size 31 gp k c2 ys o8 (by omega))
  have yp0 := kp8.cell 0
  simp only [List.getElem?_toArray, List.getElem?_cons_zero] at yp0
  go_wp2_with fail
  refine (by first | exact HRv.out | exact HRv'.out : Calls _ _ _ _ _).mono ?_
  rintro e w9 ⟨rfl, o9, as9⟩
  have as9 : Aside w1.heap.size w2.heap.size w8 w9 := by first | exact as9 | exact ⟨as9.os, as9.tape, as9.output, as9.size, as9.block⟩
  have hs9 := as9.size
  have kp9 := kp8.aside as9 (.inr (Nat.le_refl _))
  have kh9 := kh8.aside as9 (.inr (by omega))
  have oh9 := (oh8.aside as9 (.inr (by omega))).wider (Nat.le_refl _) as9.size
  have hlr : ys.reverse.length = k := by rw [List.length_reverse]; exact hlen
  clear HRv HRv' yp0 kp8 o8 kh8 oh8
  have HK1 := hide (impl_addChain w9 W6.heap.size w2.heap.size gp k c2 A8 n8 c8 _ ys.reverse kh9 oh9 kp9 (by omega) ⟨hlr, o9.rdB (by omega), by omega, hyr2⟩ hyr1 (by omega) hn8' (by omega))
  have HK1' := hide (impl_addChain w9.drew W6.heap.size w2.heap.size gp k c2 A8 n8 c8 _ ys.reverse kh9 oh9 kp9 (by show _ < _; omega) ⟨hlr, o9.rdB (by omega), by omega, hyr2⟩ hyr1 (by omega) hn8' (by omega))
  have HBB : Hid (Below w.heap.size w w9) := by
    show Below _ _ _
    exact (HB6.out.trans ((hb7.trans (hb8.mono (Nat.le_refl _))).mono HB6.out.size)).trans (as9.below hs1 (by omega))
  have hw6 : w.heap.size ≤ W6.heap.size := by omega
  go_wp2_with fail
  refine (by first | exact HK1.out | exact HK1'.out : Calls _ _ _ _ _).mono ?_
  rintro e w10 ⟨rfl, A10, n10, c10, hn10, kh10, oh10, hb10⟩
  have hb10 : Below W6.heap.size w9 w10 := by first | exact hb10 | exact undrew hb10
  have hHX := HX.out
  rw [← hHX] at hn10 oh10
  have HN10 := hide hn10
  have yh0 := kh10.cell 0
  simp only [List.getElem?_toArray, List.getElem?_cons_zero] at yh0
  clear HK1 HK1' kh9 oh9 kp9 o9 hn10 hHX HX
  go_wp2_with fail
  go_ret
  refine ⟨_, rfl, ?_, by first | exact HBB.out.trans (hb10.mono hw6) | exact (HBB.out.trans (hb10.mono hw6)).drew⟩
  rw [← HN10.out]
  exact oh10.wider (by omega) (Nat.le_refl _)
end Go.Proofs.YtocllmaikngoaaaDoor
