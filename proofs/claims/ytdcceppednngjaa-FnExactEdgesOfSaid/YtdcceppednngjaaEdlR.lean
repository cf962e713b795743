/-
  The reference's edges of polygons: contracts: l12Edges, EdgesOf.
-/
import Derived.Test.YtdcceppednngjaaEdlI
import Derived.Test.YtdcceppednngjaaPolR
namespace Go.Proofs.Ytdcceppednngjaa
open Go.RowKit
set_option linter.unusedVariables false
theorem row_some {w : World} {base size n : Nat} {E : TypeId} {v : Value} {xs : List Value} (h : w.ownsRow base E size v n xs) (hn : 0 < n) : ∃ g c, v = .slice (some ⟨g, 0, none⟩) n c := by
  rcases h.2 with ⟨_, h0⟩ | ⟨g, c, cur, hv, _⟩
  · omega
  · exact ⟨g, c, hv⟩
theorem Box.keptE {w w' : World} {g : Nat} {E : TypeId} {cs : Array Value} {row : Option Nat} (h : Box w g E cs) (hg : w.grownBy w' row) (hne : row ≠ some g) : Box w' g E cs := by
  have := hg.block g h.lt (fun e => hne e.symm)
  exact this.trans h
set_option maxRecDepth 100000 in
set_option maxHeartbeats 6400000 in
theorem spec_l12Edges (w : World) (B : Nat) (hB : B ≤ w.heap.size) (A : Option Addr) (c : Nat) (l : List V2) (R : RdV w B A l.length l) (hl6 : l.length ≤ 1048576) (k : Int) (hk : (Lit.int .i64 k).wf = true) :
    Calls Try.prog 33 #[.slice A l.length c, .int .i64 k] w fun e w' => ∃ g c, e = .returned (.slice (some ⟨g, 0, none⟩) (edgL l k).length c) ∧ OwnE w' w.heap.size w'.heap.size 29 (.slice (some ⟨g, 0, none⟩) (edgL l k).length c) (edgL l k).length (edgL l k) ∧ Below w.heap.size w w' := by
  obtain ⟨hvl, hvx, hvn, hvw⟩ := R
  have hE := World.ownsRow_made (e := 29) (size := 6) w #[] 0 (Nat.le_refl _) (by unfold maxLen; omega) rfl
  obtain ⟨W0, hW0⟩ : ∃ W0, W0 = w.alloc (.cells #[] 29) := ⟨_, rfl⟩
  have hT0 : Below w.heap.size w W0 := by rw [hW0]; exact below_new _ _
  rw [← hW0] at hE
  go_enter Try.func33, Try.ntmps33
  go_upto_region 2 with fail
  rw [← hW0]
  have hs0 : W0.heap.size = w.heap.size + 1 := by rw [hW0, alloc_size]
  clear hW0
  go_wp2_with fail
  go_loopw [5, 12] (fun v i wr => ∃ m : Nat, m ≤ l.length ∧ i = .int .i64 m ∧ (∃ g c, v = .slice (some ⟨g, 0, none⟩) (edgP l k m).length c) ∧ wr.ownsRow w.heap.size 29 6 v (edgP l k m).length (edc (edgP l k m)) ∧ Below w.heap.size w wr ∧ w.heap.size ≤ wr.heap.size) (fun _ i _ => l.length - (intOf i).toNat)
  case atStart => exact ⟨0, Nat.zero_le _, rfl, ⟨_, _, rfl⟩, hE, hT0, by omega⟩
  case round =>
    clear hE hT0 hs0
    obtain ⟨m, hm, rfl, ⟨VG, vc, rfl⟩, hown, hbel, hsz⟩ := hrel
    by_cases hml : m < l.length
    · obtain ⟨ad1, hA1, hb1, hc1, hc2⟩ := (hvx.below (hbel.mono hB)).vec (k := m) hml
      have e0 : Hid (atV l m = (l[m].1, l[m].2)) := atV_eq hml
      have HPP := hide (show edgP l k (m + 1) = edgP l k m ++ edg1 (atV l m) (atV l ((m + 1) % l.length)) k from rfl)
      have HPL := hide (edgP_len l k m)
      generalize l[m].1 = x0 at *
      generalize l[m].2 = y0 at *
      go_upto_region 5 with fail
      obtain ⟨W1, hW1⟩ : ∃ W1, W1 = wr.alloc (.cells #[.int .i64 x0, .int .i64 y0] 27) := ⟨_, rfl⟩
      have hn1 : Below wr.heap.size wr W1 := by rw [hW1]; exact below_new _ _
      have ka : Box W1 wr.heap.size 27 #[.int .i64 x0, .int .i64 y0] := by rw [hW1]; exact Box.last _ _ _ rfl
      rw [← hW1]
      clear hW1 hc1 hc2 hb1
      have hm' : ((m : Int) + 1) % (l.length : Int) = (((m + 1) % l.length : Nat) : Int) := by rw [Int.natCast_emod]; rfl
      have hpl : (m + 1) % l.length < l.length := Nat.mod_lt _ (by omega)
      obtain ⟨ad2, hA2, hb2, hc3, hc4⟩ := (hvx.below ((hbel.trans (hn1.mono hsz)).mono hB)).vec (k := (m + 1) % l.length) hpl
      rw [hA1] at hA2
      cases hA2
      subst hA1
      have e1 : Hid (atV l ((m + 1) % l.length) = (l[(m + 1) % l.length].1, l[(m + 1) % l.length].2)) := atV_eq hpl
      generalize l[(m + 1) % l.length].1 = x1 at *
      generalize l[(m + 1) % l.length].2 = y1 at *
      generalize (m + 1) % l.length = p at *
      go_upto_region 6 with fail
      obtain ⟨W2, hW2⟩ : ∃ W2, W2 = W1.alloc (.cells #[.int .i64 x1, .int .i64 y1] 27) := ⟨_, rfl⟩
      have hn2' : Below W1.heap.size W1 W2 := by rw [hW2]; exact below_new _ _
      have kb : Box W2 W1.heap.size 27 #[.int .i64 x1, .int .i64 y1] := by rw [hW2]; exact Box.last _ _ _ rfl
      rw [← hW2]
      clear hW2 hc3 hc4 hb2 hm'
      have z1 := hn1.size
      have z2 := hn2'.size
      have ka := ka.below hn2' ka.lt
      have hw2 := below_then hn1 hn2'
      have hvg : VG < wr.heap.size := (hown.lt VG rfl).2
      have hrow := own_grown hown hw2
      have hbel := hbel.trans (hw2.mono hbel.size)
      clear hown hn1 hn2' hw2
      have hsz2 : w.heap.size ≤ W2.heap.size := by omega
      have HE1 := hide (show edg1 (x0, y0) (x1, y1) k = if x0 < x1 then [⟨x0, y0, x1, y1, k, true⟩] else if x1 < x0 then [⟨x1, y1, x0, y0, k, false⟩] else [] from rfl)
      rw [e0.out, e1.out] at HPP
      clear e0 e1
      have hes : (edgP l k m).length ≤ 1048576 := by have h2 := HPL.out; omega
      obtain ⟨es, hese⟩ : ∃ es, es = edgP l k m := ⟨_, rfl⟩
      rw [← hese] at hrow hes HPP ⊢
      clear hese HPL
      obtain ⟨a0, a1⟩ := ka.cells2
      obtain ⟨b0, b1⟩ := kb.cells2
      by_cases c1 : x0 < x1
      · have hd1 : decide (x0 < x1) = true := decide_eq_true c1
        have hd1' : (x0 < x1) = True := eq_true c1
        have HEN := hide (show edgP l k (m + 1) = es ++ [⟨x0, y0, x1, y1, k, true⟩] by rw [HPP.out, HE1.out, if_pos c1])
        have c2 : ¬ x1 < x0 := by omega
        have hd2 : decide (x0 > x1) = false := decide_eq_false c2
        have hd2' : (x0 > x1) = False := eq_false c2
        have hd3 : (x1 < x0) = False := eq_false c2
        clear HE1 HPP
        go_wp2_with (at_builtin; refine wpList_append1K Try.sliceEdge rfl _ _ rfl W2 w.heap.size _ _ _ hrow rfl #[.int .i64 x0, .int .i64 y0, .int .i64 x1, .int .i64 y1, .int .i64 k, .bool true] 1 rfl rfl (by simp [Value.oneCell']) (by omega) (by omega) (by omega) ?_; intro v5 w5 hown5 hb5 hg5; have HEE := hide (show w5.ownsRow w.heap.size 29 6 v5 (edgP l k (m + 1)).length (edc (edgP l k (m + 1))) by rw [HEN.out, edc_append, List.length_append]; exact hown5); have HSH := hide (show ∃ g c, v5 = .slice (some ⟨g, 0, none⟩) (edgP l k (m + 1)).length c by rw [HEN.out, List.length_append]; exact row_some hown5 (Nat.succ_pos _)); have HKA := hide (ka.keptE hg5 (show (some VG : Option Nat) ≠ some wr.heap.size from fun e => by injection e; omega)); have HKB := hide (kb.keptE hg5 (show (some VG : Option Nat) ≠ some W1.heap.size from fun e => by injection e; omega)); have HB5 := hide hb5; clear hown5 hg5 hb5 hrow a0 a1 b0 b1; obtain ⟨a0, a1⟩ := HKA.out.cells2; obtain ⟨b0, b1⟩ := HKB.out.cells2)
        go_roundw
        case rel => exact ⟨m + 1, by omega, by go_num, HSH.out, HEE.out, hbel.trans HB5.out, by have := HB5.out.size; omega⟩
        case measure => simp [intOf]; omega
      · have hd1 : decide (x0 < x1) = false := decide_eq_false c1
        have hd1' : (x0 < x1) = False := eq_false c1
        by_cases c2 : x1 < x0
        · have hd2 : decide (x0 > x1) = true := decide_eq_true c2
          have hd2' : (x1 < x0) = True := eq_true c2
          have HEN := hide (show edgP l k (m + 1) = es ++ [⟨x1, y1, x0, y0, k, false⟩] by rw [HPP.out, HE1.out, if_neg c1, if_pos c2])
          clear HE1 HPP
          go_wp2_with (at_builtin; refine wpList_append1K Try.sliceEdge rfl _ _ rfl W2 w.heap.size _ _ _ hrow rfl #[.int .i64 x1, .int .i64 y1, .int .i64 x0, .int .i64 y0, .int .i64 k, .bool false] 1 rfl rfl (by simp [Value.oneCell']) (by omega) (by omega) (by omega) ?_; intro v5 w5 hown5 hb5 hg5; have HEE := hide (show w5.ownsRow w.heap.size 29 6 v5 (edgP l k (m + 1)).length (edc (edgP l k (m + 1))) by rw [HEN.out, edc_append, List.length_append]; exact hown5); have HSH := hide (show ∃ g c, v5 = .slice (some ⟨g, 0, none⟩) (edgP l k (m + 1)).length c by rw [HEN.out, List.length_append]; exact row_some hown5 (Nat.succ_pos _)); have HB5 := hide hb5; clear hown5 hg5 hb5 hrow)
          go_roundw
          case rel => exact ⟨m + 1, by omega, by go_num, HSH.out, HEE.out, hbel.trans HB5.out, by have := HB5.out.size; omega⟩
          case measure => simp [intOf]; omega
        · have hd2 : decide (x0 > x1) = false := decide_eq_false c2
          have hd2' : (x1 < x0) = False := eq_false c2
          have HEN := hide (show edgP l k (m + 1) = es by rw [HPP.out, HE1.out, if_neg c1, if_neg c2, List.append_nil])
          clear HE1 HPP
          have HROW := hide hrow
          clear hrow
          go_wp2_with fail
          go_roundw
          case rel => exact ⟨m + 1, by omega, by go_num, ⟨VG, vc, by rw [HEN.out]⟩, by rw [HEN.out]; exact HROW.out, hbel, by omega⟩
          case measure => simp [intOf]; omega
    · obtain rfl : m = l.length := by omega
      have HO := hide (OwnE.of_row hown (Nat.le_refl _))
      clear hown hvx
      go_wp2_with fail
      go_ret
      exact ⟨VG, vc, rfl, HO.out, hbel⟩
set_option maxRecDepth 100000 in
set_option maxHeartbeats 6400000 in
theorem spec_EdgesOf (w : World) (B : Nat) (hB : B ≤ w.heap.size) (A : Option Addr) (n c : Nat) (ss : List Sl) (R : RdS w B A n ss) (ht : totN (cont ss) ≤ 1048576) :
    Calls Try.prog 11 #[.slice A n c] w fun e w' => ∃ v, e = .returned v ∧ OwnE w' w.heap.size w'.heap.size 29 v (edgR (cont ss)).length (edgR (cont ss)) ∧ Below w.heap.size w w' := by
  obtain ⟨hsn, hx, hn2, hs⟩ := R
  have HCL : Hid ((cont ss).length = n) := by show _; rw [cont_len]; exact hsn
  have hE := World.ownsRow_made (e := 29) (size := 6) w #[] 0 (Nat.le_refl _) (by unfold maxLen; omega) rfl
  obtain ⟨W0, hW0⟩ : ∃ W0, W0 = w.alloc (.cells #[] 29) := ⟨_, rfl⟩
  have hT0 : Below w.heap.size w W0 := by rw [hW0]; exact below_new _ _
  rw [← hW0] at hE
  go_enter Try.func11, Try.ntmps11
  go_upto_region 2 with fail
  rw [← hW0]
  have hs0 : W0.heap.size = w.heap.size + 1 := by rw [hW0, alloc_size]
  clear hW0
  go_wp2_with fail
  go_loopw [3, 9] (fun v i wr => ∃ j : Nat, j ≤ n ∧ i = .int .i64 j ∧ Hid (∀ i (hi : i < (cont ss).length), i < j → polyB (cont ss)[i] = true) ∧ wr.ownsRow w.heap.size 29 6 v (edgA (cont ss) j).length (edc (edgA (cont ss) j)) ∧ Below w.heap.size w wr ∧ w.heap.size ≤ wr.heap.size) (fun _ i _ => n - (intOf i).toNat)
  case atStart => exact ⟨0, Nat.zero_le _, rfl, fun i hi h => absurd h (Nat.not_lt_zero _), hE, hT0, by omega⟩
  case round =>
    clear hE hT0 hs0
    obtain ⟨j, hj, rfl, HPo, hown, hbel, hsz⟩ := hrel
    by_cases hlt : j < n
    · have hjl : j < ss.length := by omega
      have hjc : j < (cont ss).length := by rw [HCL.out]; exact hlt
      obtain ⟨ad, hA, hb1, hc1⟩ := (hx.below (hbel.mono hB)).sl hjl
      have RS := (hs _ (List.getElem_mem hjl)).below (hbel.mono hB)
      have HIP := hide (spec_IsPolygon wr B (Nat.le_trans hB hbel.size) ss[j].a ss[j].vs.length ss[j].c ss[j].vs RS)
      have HLE2 := hide (fun (W : World) (hb : Below wr.heap.size wr W) => spec_l12Edges W B (by have := hb.size; omega) ss[j].a ss[j].c ss[j].vs (RS.below (hb.mono (by omega))) RS.2.2.1 (j : Int) (WalkArith.wf_i64 ⟨by omega, by omega⟩))
      have ecl : (cont ss)[j] = ss[j].vs := cont_at hjl
      have HAT := hide (show edgA (cont ss) (j + 1) = edgA (cont ss) j ++ edgL ss[j].vs (j : Int) by rw [edgA_at hjc, ecl]; rfl)
      have HNO : Hid (polyB ss[j].vs = false → edgR (cont ss) = []) := fun h => all_no hjc (by rw [ecl]; exact h)
      have HYE : Hid (polyB ss[j].vs = true → ∀ i (hi : i < (cont ss).length), i < j + 1 → polyB (cont ss)[i] = true) := fun h i hi hij => by
        by_cases e : i = j
        · subst e; rw [ecl]; exact h
        · exact HPo.out i hi (by omega)
      have hle : (edgA (cont ss) j).length + (edgL ss[j].vs (j : Int)).length ≤ 1048576 := by
        have h1 := edgA_len (cont ss) j
        have h2 := totN_take hjc
        have h3 := totN_take_le (cont ss) (j + 1)
        have h4 := edgP_len ss[j].vs (j : Int) ss[j].vs.length
        have h5 : (edgL ss[j].vs (j : Int)).length ≤ ss[j].vs.length := h4
        rw [ecl] at h2; omega
      generalize ss[j].vs = l at *
      generalize ss[j].a = A1 at *
      generalize ss[j].c = c1 at *
      clear ecl HPo RS
      subst hA
      go_wp2_with fail
      refine HIP.out.mono ?_
      rintro e w1 ⟨rfl, hbp⟩
      clear hc1
      cases hp : polyB l with
      | false =>
        have e0 := HNO.out hp
        have hf := hbel.trans (hbp.mono hbel.size)
        clear hown hbel
        go_wp2_with fail
        go_ret
        exact ⟨_, rfl, by rw [e0]; exact OwnE.nil _ _ _ _, hf⟩
      | true =>
        have HYE' := hide (HYE.out hp)
        have HL2 := hide (HLE2.out w1 hbp)
        clear HYE HNO hp HIP HLE2
        have hown := own_grown hown hbp
        have hbs := hbp.size
        have hbel := hbel.trans (hbp.mono hbel.size)
        clear hbp
        generalize edgL l (j : Int) = el at *
        go_wp2_with fail
        refine HL2.out.mono ?_
        rintro e w2 ⟨g2, c2, rfl, o2, hb2⟩
        have hown := own_grown hown hb2
        have hbs2 := hb2.size
        have hbel := hbel.trans (hb2.mono hbel.size)
        have R2 := o2.rdB (Nat.le_refl w2.heap.size)
        have hl2 := edc_len el
        have hle48 : ((edgA (cont ss) j).length + el.length) * 48 ≤ 140737488355328 := by omega
        clear o2 hb2 HL2
        go_wp2_with (at_builtin; refine wpList_append_rdK Try.sliceEdge rfl _ _ rfl w2 w.heap.size _ _ _ hown rfl _ ⟨g2, 0, none⟩ el.length c2 (edc el) rfl hl2 R2 (edc_one _) (by unfold maxLen; omega) hle48 (by omega) ?_; intro v5 w5 hown5 hb5 hg5; have HEE := hide (show w5.ownsRow w.heap.size 29 6 v5 (edgA (cont ss) (j + 1)).length (edc (edgA (cont ss) (j + 1))) by rw [HAT.out, edc_append, List.length_append]; exact hown5); have HB5 := hide hb5; clear hown5 hg5 hb5 hown R2)
        go_roundw
        case rel => exact ⟨j + 1, by omega, by go_num, HYE', HEE.out, hbel.trans HB5.out, by have := HB5.out.size; omega⟩
        case measure => simp [intOf]; omega
    · obtain rfl : j = n := by omega
      have eR : edgR (cont ss) = edgA (cont ss) j := by
        rw [all_yes (fun i hi => HPo.out i hi (by rw [HCL.out] at hi; exact hi)), HCL.out]
      have HO := hide (OwnE.of_row hown (Nat.le_refl _))
      clear hown HPo
      go_wp2_with fail
      go_ret
      exact ⟨_, rfl, by rw [eR]; exact HO.out, hbel⟩
end Go.Proofs.Ytdcceppednngjaa
