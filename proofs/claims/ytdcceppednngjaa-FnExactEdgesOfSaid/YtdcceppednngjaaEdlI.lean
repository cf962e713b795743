/-
  The program's edges of polygons: contract: EdgesOf.
-/
import Derived.Test.YtdcceppednngjaaED
import Derived.Test.YtdcceppednngjaaPolI
import Derived.Test.YtdcceppednngjaaPB
import Derived.Laws.EntriesVeiled
namespace Go.Proofs.Ytdcceppednngjaa
open Go.RowKit
set_option linter.unusedVariables false
set_option maxHeartbeats 800000 in
theorem impl_leadsRight (w : World) (x y u v : Int) :
    Calls Try.prog 35 #[.agg #[.int .i64 x, .int .i64 y], .agg #[.int .i64 u, .int .i64 v]] w fun e w' => e = .returned (.bool (decide (x < u))) ∧ Below w.heap.size w w' := by
  obtain ⟨W0, hW0⟩ : ∃ W0, W0 = (w.alloc (.cells #[.int .i64 x, .int .i64 y] 27)).alloc (.cells #[.int .i64 u, .int .i64 v] 27) := ⟨_, rfl⟩
  have hT0 : Below w.heap.size w W0 := by rw [hW0]; exact below_alloc (below_new _ _) _
  have ka : Box W0 w.heap.size 27 #[.int .i64 x, .int .i64 y] := by rw [hW0]; exact (Box.last _ _ _ rfl).alloc _
  have kb : Box W0 (w.heap.size + 1) 27 #[.int .i64 u, .int .i64 v] := by rw [hW0]; exact Box.last _ _ _ (alloc_size _ _).symm
  go_enter Try.func35, Try.ntmps35
  go_upto_region 1 with fail
  rw [← hW0]
  clear hW0
  obtain ⟨a0, a1⟩ := ka.cells2
  obtain ⟨b0, b1⟩ := kb.cells2
  go_wp2_with fail
  go_ret
  exact ⟨rfl, hT0⟩
set_option maxHeartbeats 800000 in
theorem impl_leadsLeft (w : World) (g : Nat) (E : TypeId) (kg : Box w g E #[.func (.func 35) #[] #[]]) (x y u v : Int) :
    Calls Try.prog 36 #[.agg #[.int .i64 x, .int .i64 y], .agg #[.int .i64 u, .int .i64 v], .pointer (some ⟨g, 0, none⟩)] w fun e w' => e = .returned (.bool (decide (u < x))) ∧ Below w.heap.size w w' := by
  obtain ⟨W0, hW0⟩ : ∃ W0, W0 = (w.alloc (.cells #[.int .i64 x, .int .i64 y] 27)).alloc (.cells #[.int .i64 u, .int .i64 v] 27) := ⟨_, rfl⟩
  have hT0 : Below w.heap.size w W0 := by rw [hW0]; exact below_alloc (below_new _ _) _
  have ka : Box W0 w.heap.size 27 #[.int .i64 x, .int .i64 y] := by rw [hW0]; exact (Box.last _ _ _ rfl).alloc _
  have kb : Box W0 (w.heap.size + 1) 27 #[.int .i64 u, .int .i64 v] := by rw [hW0]; exact Box.last _ _ _ (alloc_size _ _).symm
  have kg := kg.below hT0 kg.lt
  go_enter Try.func36, Try.ntmps36
  go_upto_region 1 with fail
  rw [← hW0]
  clear hW0
  have g0 := kg.cell 0
  obtain ⟨a0, a1⟩ := ka.cells2
  obtain ⟨b0, b1⟩ := kb.cells2
  go_wp2_with fail
  refine (impl_leadsRight _ _ _ _ _).mono ?_
  rintro e w1 ⟨rfl, hb1⟩
  go_wp2_with fail
  go_ret
  exact ⟨rfl, below_then hT0 hb1⟩
theorem all_no {L : List (List V2)} {j : Nat} (hj : j < L.length) (h : polyB L[j] = false) : edgR L = [] := by
  unfold edgR
  rw [if_neg]
  intro e
  rw [List.all_eq_true] at e
  have := e _ (List.getElem_mem hj)
  rw [h] at this; exact absurd this (by decide)
theorem all_yes {L : List (List V2)} (h : ∀ i (hi : i < L.length), polyB L[i] = true) : edgR L = edgA L L.length := by
  unfold edgR
  rw [if_pos]
  rw [List.all_eq_true]
  intro l hl
  obtain ⟨i, hi, rfl⟩ := List.getElem_of_mem hl
  exact h i hi
theorem edgA_at {L : List (List V2)} {j : Nat} (hj : j < L.length) : edgA L (j + 1) = edgA L j ++ edgP L[j] (j : Int) L[j].length := by
  have e : L.getD j [] = L[j] := by simp [List.getD, List.getElem?_eq_getElem hj]
  show edgA L j ++ edgL (L.getD j []) (j : Int) = _
  rw [e]; rfl
set_option maxRecDepth 100000 in
set_option maxHeartbeats 6400000 in
theorem impl_EdgesOf (w : World) (B : Nat) (hB : B ≤ w.heap.size) (A : Option Addr) (n c : Nat) (ss : List Sl) (R : RdS w B A n ss) (ht : totN (cont ss) ≤ 1048576) :
    Calls Try.prog 13 #[.slice A n c] w fun e w' => ∃ v, e = .returned v ∧ OwnE w' w.heap.size w'.heap.size 29 v (edgR (cont ss)).length (edgR (cont ss)) ∧ Below w.heap.size w w' := by
  obtain ⟨hsn, hx, hn2, hs⟩ := R
  have HCL : Hid ((cont ss).length = n) := by show _; rw [cont_len]; exact hsn
  obtain ⟨W0, hW0⟩ : ∃ W0, W0 = w.alloc (.cells #[.func (.func 35) #[] #[]] 67) := ⟨_, rfl⟩
  have hT0 : Below w.heap.size w W0 := by rw [hW0]; exact below_new _ _
  have kf : Box W0 w.heap.size 67 #[.func (.func 35) #[] #[]] := by rw [hW0]; exact Box.last _ _ _ rfl
  have hs0 : W0.heap.size = w.heap.size + 1 := by rw [hW0, alloc_size]
  go_enter Try.func13, Try.ntmps13
  go_upto_region 3 with fail
  rw [← hW0]
  clear hW0
  go_wp2_with fail
  go_loopw [3, 14] (fun v i wr => ∃ j : Nat, j ≤ n ∧ i = .int .i64 j ∧ Hid (∀ i (hi : i < (cont ss).length), i < j → polyB (cont ss)[i] = true) ∧ wr.ownsRow (w.heap.size + 1) 29 6 v (edgA (cont ss) j).length (edc (edgA (cont ss) j)) ∧ Box wr w.heap.size 67 #[.func (.func 35) #[] #[]] ∧ Below w.heap.size w wr ∧ w.heap.size + 1 ≤ wr.heap.size) (fun _ i _ => n - (intOf i).toNat)
  case atStart => exact ⟨0, Nat.zero_le _, rfl, fun i hi h => absurd h (Nat.not_lt_zero _), World.ownsRow_nil _ _ _ _, kf, hT0, by omega⟩
  case round =>
    clear kf hT0 hs0
    obtain ⟨j, hj, rfl, HPo, hown, kf, hbel, hsz⟩ := hrel
    by_cases hlt : j < n
    · have hjl : j < ss.length := by omega
      have hjc : j < (cont ss).length := by rw [HCL.out]; exact hlt
      obtain ⟨ad, hA, hb1, hc1⟩ := (hx.below (hbel.mono hB)).sl hjl
      have RS := (hs _ (List.getElem_mem hjl)).below (hbel.mono hB)
      have HIP := hide (impl_IsPolygon wr B (Nat.le_trans hB hbel.size) ss[j].a ss[j].vs.length ss[j].c ss[j].vs RS)
      have ecl : (cont ss)[j] = ss[j].vs := cont_at hjl
      have HAT := hide (show edgA (cont ss) (j + 1) = edgA (cont ss) j ++ edgP ss[j].vs (j : Int) ss[j].vs.length by rw [edgA_at hjc, ecl])
      have HNO : Hid (polyB ss[j].vs = false → edgR (cont ss) = []) := fun h => all_no hjc (by rw [ecl]; exact h)
      have HYE : Hid (polyB ss[j].vs = true → ∀ i (hi : i < (cont ss).length), i < j + 1 → polyB (cont ss)[i] = true) := fun h i hi hij => by
        by_cases e : i = j
        · subst e; rw [ecl]; exact h
        · exact HPo.out i hi (by omega)
      have hle : (edgA (cont ss) j).length + ss[j].vs.length ≤ 1048576 := by
        have h1 := edgA_len (cont ss) j
        have h2 := totN_take hjc
        have h3 := totN_take_le (cont ss) (j + 1)
        rw [ecl] at h2; omega
      have HLE := hide hle
      clear hle
      obtain ⟨hvl, hvx, hvn, hvw⟩ := RS
      generalize ss[j].vs = l at *
      generalize ss[j].a = A1 at *
      generalize ss[j].c = c1 at *
      clear ecl HPo
      subst hA
      go_wp2_with fail
      refine HIP.out.mono ?_
      rintro e w1 ⟨rfl, hbp⟩
      clear hc1
      cases hp : polyB l with
      | false =>
        have e0 := HNO.out hp
        have hf := hbel.trans (hbp.mono hbel.size)
        clear hown kf hbel
        go_wp2_with fail
        go_ret
        exact ⟨_, rfl, by rw [e0]; exact OwnE.nil _ _ _ _, hf⟩
      | true =>
        have HYE' := hide (HYE.out hp)
        clear HYE HNO hp HIP
        have hown := own_grown hown hbp
        have kf := kf.below hbp (by omega)
        have hbs := hbp.size
        have hbel := hbel.trans (hbp.mono hbel.size)
        have hsz1 : w.heap.size + 1 ≤ w1.heap.size := by omega
        have hvx := hvx.below (hbp.mono (by have := hbel.size; omega))
        clear hbp hbs hsz
        go_wp2_with fail
        go_loopw [3, 24] (fun v i wi => ∃ m : Nat, m ≤ l.length ∧ i = .int .i64 m ∧ wi.ownsRow (w.heap.size + 1) 29 6 v (edgA (cont ss) j ++ edgP l (j : Int) m).length (edc (edgA (cont ss) j ++ edgP l (j : Int) m)) ∧ Box wi w.heap.size 67 #[.func (.func 35) #[] #[]] ∧ Below w.heap.size w wi ∧ Below (w.heap.size + 1) w1 wi ∧ w.heap.size + 1 ≤ wi.heap.size) (fun _ i _ => l.length - (intOf i).toNat)
        case atStart => exact ⟨0, Nat.zero_le _, rfl, by rw [edgP, List.append_nil]; exact hown, kf, hbel, Below.refl _ _, hsz1⟩
        case round =>
          clear hown kf hbel hsz1
          obtain ⟨m, hm, rfl, hown, kf, hbel, hbi, hsz⟩ := hrel
          by_cases hml : m < l.length
          · obtain ⟨ad1, hA1, hb1, hc1, hc2⟩ := (hvx.below (hbi.mono (by omega))).vec (k := m) hml
            have hown' := hown
            obtain ⟨VA, vc, rfl⟩ := own_shape hown
            have e0 : Hid (atV l m = (l[m].1, l[m].2)) := atV_eq hml
            have HPP := hide (show edgP l (j : Int) (m + 1) = edgP l (j : Int) m ++ edg1 (atV l m) (atV l ((m + 1) % l.length)) (j : Int) from rfl)
            have HPL := hide (edgP_len l (j : Int) m)
            generalize l[m].1 = x0 at *
            generalize l[m].2 = y0 at *
            go_upto_region 12 with fail
            obtain ⟨W1, hW1⟩ : ∃ W1, W1 = wr.alloc (.cells #[.int .i64 x0, .int .i64 y0] 27) := ⟨_, rfl⟩
            have hn1 : Below wr.heap.size wr W1 := by rw [hW1]; exact below_new _ _
            have ka : Box W1 wr.heap.size 27 #[.int .i64 x0, .int .i64 y0] := by rw [hW1]; exact Box.last _ _ _ rfl
            rw [← hW1]
            clear hW1 hc1 hc2 hb1
            have hm' : ((m : Int) + 1) % (l.length : Int) = (((m + 1) % l.length : Nat) : Int) := by rw [Int.natCast_emod]; rfl
            have hpl : (m + 1) % l.length < l.length := Nat.mod_lt _ (by omega)
            obtain ⟨ad2, hA2, hb2, hc3, hc4⟩ := (hvx.below ((hbi.trans (hn1.mono hsz)).mono (by omega))).vec (k := (m + 1) % l.length) hpl
            rw [hA1] at hA2
            cases hA2
            subst hA1
            have e1 : Hid (atV l ((m + 1) % l.length) = (l[(m + 1) % l.length].1, l[(m + 1) % l.length].2)) := atV_eq hpl
            generalize l[(m + 1) % l.length].1 = x1 at *
            generalize l[(m + 1) % l.length].2 = y1 at *
            generalize (m + 1) % l.length = p at *
            go_upto_region 13 with fail
            obtain ⟨W2, hW2⟩ : ∃ W2, W2 = W1.alloc (.cells #[.int .i64 x1, .int .i64 y1] 27) := ⟨_, rfl⟩
            have hn2' : Below W1.heap.size W1 W2 := by rw [hW2]; exact below_new _ _
            have kb : Box W2 W1.heap.size 27 #[.int .i64 x1, .int .i64 y1] := by rw [hW2]; exact Box.last _ _ _ rfl
            rw [← hW2]
            clear hW2 hc3 hc4 hb2 hm'
            have z1 := hn1.size
            have z2 := hn2'.size
            have ka := ka.below hn2' ka.lt
            have hw2 := below_then hn1 hn2'
            have kf := kf.below hw2 (by omega)
            have hrow := own_grown hown' hw2
            have hbel := hbel.trans (hw2.mono hbel.size)
            have hbi := hbi.trans (hw2.mono hsz)
            have lka := ka.lt
            have lkb := kb.lt
            clear hown hown' hn1 hn2' hw2
            have hsz2 : w.heap.size + 1 ≤ W2.heap.size := by omega
            have HE1 := hide (show edg1 (x0, y0) (x1, y1) (j : Int) = if x0 < x1 then [⟨x0, y0, x1, y1, (j : Int), true⟩] else if x1 < x0 then [⟨x1, y1, x0, y0, (j : Int), false⟩] else [] from rfl)
            rw [e0.out, e1.out] at HPP
            clear e0 e1
            have hes : (edgA (cont ss) j ++ edgP l (j : Int) m).length ≤ 1048576 := by have h1 := HLE.out; have h2 := HPL.out; rw [List.length_append]; omega
            have HNX := hide (show edgA (cont ss) j ++ edgP l (j : Int) (m + 1) = (edgA (cont ss) j ++ edgP l (j : Int) m) ++ edg1 (x0, y0) (x1, y1) (j : Int) by rw [HPP.out, List.append_assoc])
            obtain ⟨es, hese⟩ : ∃ es, es = edgA (cont ss) j ++ edgP l (j : Int) m := ⟨_, rfl⟩
            rw [← hese] at hrow hes HNX ⊢
            clear hese HPP HPL
            have f0 : W2.cell? ⟨w.heap.size, 0, none⟩ = some (.func (.func 35) #[] #[]) := kf.cell 0
            obtain ⟨a0, a1⟩ := ka.cells2
            obtain ⟨b0, b1⟩ := kb.cells2
            go_wp2_with fail
            refine (impl_leadsRight W2 x0 y0 x1 y1).mono ?_
            rintro e w3 ⟨rfl, hb3⟩
            clear f0 a0 a1 b0 b1
            have kf := kf.below hb3 (by omega)
            have ka := ka.below hb3 ka.lt
            have kb := kb.below hb3 kb.lt
            have hrow := own_grown hrow hb3
            have hbel := hbel.trans (hb3.mono hbel.size)
            have hbi := hbi.trans (hb3.mono hsz2)
            have z3 := hb3.size
            have hsz3 : w.heap.size + 1 ≤ w3.heap.size := by omega
            clear hb3 hsz2
            obtain ⟨a0, a1⟩ := ka.cells2
            obtain ⟨b0, b1⟩ := kb.cells2
            by_cases c1 : x0 < x1
            · have hd1 : decide (x0 < x1) = true := decide_eq_true c1
              have HEN := hide (show edgA (cont ss) j ++ edgP l (j : Int) (m + 1) = es ++ [⟨x0, y0, x1, y1, (j : Int), true⟩] by rw [HNX.out, HE1.out, if_pos c1])
              rw [hd1]
              clear HE1 HNX
              go_wp2_with (at_builtin; refine wpList_append1K Try.sliceEdge rfl _ _ rfl w3 (w.heap.size + 1) _ _ _ hrow rfl #[.int .i64 x0, .int .i64 y0, .int .i64 x1, .int .i64 y1, .int .i64 (j : Int), .bool true] 1 rfl rfl (by simp [Value.oneCell']) (by omega) (by omega) (by omega) ?_; intro v5 w5 hown5 hb5 hg5; have HEE := hide (show w5.ownsRow (w.heap.size + 1) 29 6 v5 (edgA (cont ss) j ++ edgP l (j : Int) (m + 1)).length (edc (edgA (cont ss) j ++ edgP l (j : Int) (m + 1))) by rw [HEN.out, edc_append, List.length_append]; exact hown5); have HKF := hide (kf.below hb5 (Nat.lt_succ_self _)); have HB5 := hide hb5; clear hown5 hg5 hb5 kf hrow)
              go_roundw
              case rel => exact ⟨m + 1, by omega, by go_num, HEE.out, HKF.out, hbel.trans (HB5.out.mono (Nat.le_succ _)), hbi.trans HB5.out, by have := HB5.out.size; omega⟩
              case measure => simp [intOf]; omega
            · have hd1 : decide (x0 < x1) = false := decide_eq_false c1
              have HE2 := hide (show edg1 (x0, y0) (x1, y1) (j : Int) = if x1 < x0 then [⟨x1, y1, x0, y0, (j : Int), false⟩] else [] by rw [HE1.out, if_neg c1])
              rw [hd1]
              clear HE1 hd1
              go_wp2_with fail
              refine (impl_leadsLeft w3 w.heap.size _ kf x0 y0 x1 y1).mono ?_
              rintro e w4 ⟨rfl, hb4⟩
              clear a0 a1 b0 b1
              have kf := kf.below hb4 (by omega)
              have ka := ka.below hb4 ka.lt
              have kb := kb.below hb4 kb.lt
              have hrow := own_grown hrow hb4
              have hbel := hbel.trans (hb4.mono hbel.size)
              have hbi := hbi.trans (hb4.mono hsz3)
              have z4 := hb4.size
              have hsz4 : w.heap.size + 1 ≤ w4.heap.size := by omega
              clear hb4 hsz3
              obtain ⟨a0, a1⟩ := ka.cells2
              obtain ⟨b0, b1⟩ := kb.cells2
              by_cases c2 : x1 < x0
              · have hd2 : decide (x1 < x0) = true := decide_eq_true c2
                have HEN := hide (show edgA (cont ss) j ++ edgP l (j : Int) (m + 1) = es ++ [⟨x1, y1, x0, y0, (j : Int), false⟩] by rw [HNX.out, HE2.out, if_pos c2])
                rw [hd2]
                clear HE2 HNX
                go_wp2_with (at_builtin; refine wpList_append1K Try.sliceEdge rfl _ _ rfl w4 (w.heap.size + 1) _ _ _ hrow rfl #[.int .i64 x1, .int .i64 y1, .int .i64 x0, .int .i64 y0, .int .i64 (j : Int), .bool false] 1 rfl rfl (by simp [Value.oneCell']) (by omega) (by omega) (by omega) ?_; intro v5 w5 hown5 hb5 hg5; have HEE := hide (show w5.ownsRow (w.heap.size + 1) 29 6 v5 (edgA (cont ss) j ++ edgP l (j : Int) (m + 1)).length (edc (edgA (cont ss) j ++ edgP l (j : Int) (m + 1))) by rw [HEN.out, edc_append, List.length_append]; exact hown5); have HKF := hide (kf.below hb5 (Nat.lt_succ_self _)); have HB5 := hide hb5; clear hown5 hg5 hb5 kf hrow)
                go_roundw
                case rel => exact ⟨m + 1, by omega, by go_num, HEE.out, HKF.out, hbel.trans (HB5.out.mono (Nat.le_succ _)), hbi.trans HB5.out, by have := HB5.out.size; omega⟩
                case measure => simp [intOf]; omega
              · have hd2 : decide (x1 < x0) = false := decide_eq_false c2
                have HEN := hide (show edgA (cont ss) j ++ edgP l (j : Int) (m + 1) = es by rw [HNX.out, HE2.out, if_neg c2, List.append_nil])
                rw [hd2]
                clear HE2 HNX
                have HROW := hide hrow
                clear hrow
                go_wp2_with fail
                go_roundw
                case rel => exact ⟨m + 1, by omega, by go_num, by rw [HEN.out]; exact HROW.out, kf, hbel, hbi, by omega⟩
                case measure => simp [intOf]; omega
          · obtain rfl : m = l.length := by omega
            have HEN := hide (show edgA (cont ss) j ++ edgP l (j : Int) l.length = edgA (cont ss) (j + 1) from HAT.out.symm)
            rw [HEN.out] at hown
            have HROW := hide hown
            clear hown hvx
            go_wp2_with fail
            go_roundw
            case rel => exact ⟨j + 1, by omega, by go_num, HYE', HROW.out, kf, hbel, hsz⟩
            case measure => simp [intOf]; omega
    · obtain rfl : j = n := by omega
      have eR : edgR (cont ss) = edgA (cont ss) j := by
        rw [all_yes (fun i hi => HPo.out i hi (by rw [HCL.out] at hi; exact hi)), HCL.out]
      have HO := hide (OwnE.of_row (own_lower hown (Nat.le_succ _)) (Nat.le_refl _))
      clear hown kf HPo
      go_wp2_with fail
      go_ret
      exact ⟨_, rfl, by rw [eR]; exact HO.out, hbel⟩
end Go.Proofs.Ytdcceppednngjaa
