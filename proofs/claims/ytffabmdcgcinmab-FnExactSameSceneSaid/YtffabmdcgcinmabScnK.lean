/-
  The reference's scenes: contracts (5): l10Same, SameScene.
-/
import Derived.Test.YtffabmdcgcinmabScnJ
namespace Go.Proofs.Ytffabmdcgcinmab
open Go.RowKit
set_option linter.unusedVariables false
theorem neq_vecS (W : World) (a b c d : Int) : (binOp .neq 29 (.agg #[.int .i64 a, .int .i64 b]) (.agg #[.int .i64 c, .int .i64 d])).run Try.prog W = .ok (.bool (!pairB a b c d)) W := by
  rw [run_neq_struct]
  unfold pairB
  go_simp
  by_cases h1 : a = c <;> by_cases h2 : b = d <;> simp [h1, h2]
set_option maxRecDepth 100000 in
set_option maxHeartbeats 3200000 in
theorem spec_l10Same (w : World) (B : Nat) (hB : B ≤ w.heap.size) (A D : Option Addr) (n c m d : Nat) (xs ys : List V2) (R : RdV w B A n xs) (S : RdV w B D m ys) :
    Calls Try.prog 40 #[.slice A n c, .slice D m d] w fun e w' => e = .returned (.bool (decide (xs = ys))) ∧ Below w.heap.size w w' := by
  obtain ⟨hn, hx, hl, hwx⟩ := R
  obtain ⟨hm, hy, hl2, hwy⟩ := S
  by_cases hnm : n = m
  case neg =>
    have hd : decide (xs = ys) = false := by simp; intro e; rw [e] at hn; omega
    have hne : ((n : Int) != (m : Int)) = true := by simp; omega
    rw [hd]
    clear hx hy hd
    go_enter Try.func40, Try.ntmps40
    go_wp2_with fail
    go_ret
    exact ⟨rfl, Below.refl _ _⟩
  subst hnm
  have hq : ((n : Int) != (n : Int)) = false := by simp
  go_enter Try.func40, Try.ntmps40
  go_wp2_with fail
  clear hq
  go_loopw [14] (fun i wr => ∃ k : Nat, k ≤ n ∧ i = .int .i64 k ∧ Hid (xs.take k = ys.take k) ∧ Below w.heap.size w wr) (fun i _ => n - (intOf i).toNat)
  case atStart => exact ⟨0, Nat.zero_le _, rfl, by show _ = _; simp, Below.refl _ _⟩
  case round =>
    obtain ⟨k, hk, rfl, H, hbel⟩ := hrel
    have hbs := hbel.size
    by_cases hlt : k < n
    · obtain ⟨ad, hA, hb1, hc1, hc2⟩ := (hx.below (hbel.mono hB)).vec (k := k) (by omega)
      obtain ⟨ae, hE, hb3, hc3, hc4⟩ := (hy.below (hbel.mono hB)).vec (k := k) (by omega)
      have hkx : k < xs.length := by omega
      have hky : k < ys.length := by omega
      have hj0 : (0 : Int) ≤ (k : Int) := Int.natCast_nonneg _
      have hj1 : (k : Int) < (n : Int) := by omega
      have hn9 : (n : Int) ≤ 1048576 := by omega
      have HN : Hid (xs[k] = ys[k] → xs.take (k + 1) = ys.take (k + 1)) := fun he => take_eq_step hkx hky H.out he
      have HM : Hid (xs[k] ≠ ys[k] → decide (xs = ys) = false) := fun hne => by simp; intro e; subst e; exact hne rfl
      generalize xs[k] = u at *
      generalize ys[k] = v at *
      obtain ⟨x, y⟩ := u
      obtain ⟨x', y'⟩ := v
      have HP : Hid (pairB x y x' y' = decide ((x, y) = (x', y'))) := pair_ne x y x' y'
      have e1 := fun W => neq_vecS W x y x' y'
      generalize pairB x y x' y' = b at *
      obtain ⟨W0, hW0⟩ : ∃ W0, W0 = wr.alloc (.cells #[.int .i64 x, .int .i64 y] 29) := ⟨_, rfl⟩
      have ka : Box W0 wr.heap.size 29 #[.int .i64 x, .int .i64 y] := by rw [hW0]; exact Box.last _ _ _ rfl
      have hT : Below wr.heap.size wr W0 := by rw [hW0]; exact below_new _ _
      have hd3 : W0.cell? (ae.add (k * 2)) = some (.int .i64 x') := (hT.cell (by rw [add_block]; omega)).trans hc3
      have hd4 : W0.cell? ⟨(ae.add (k * 2)).block, (ae.add (k * 2)).off + 1, none⟩ = some (.int .i64 y') := (hT.cell (p := ⟨_, _, none⟩) (by show (ae.add (k * 2)).block < _; rw [add_block]; omega)).trans hc4
      have hT2 := hbel.trans (hT.mono hbs)
      subst hA
      subst hE
      clear hx hy H
      go_upto_region 6 with fail
      rw [← hW0]
      clear hW0 hc1 hc2 hc3 hc4
      obtain ⟨ya0, ya1⟩ := ka.cells2
      cases b with
      | true =>
        have HN2 := hide (HN.out (of_decide_eq_true HP.out.symm))
        clear HN HM HP
        go_quiet (fail)
        go_wp2_with fail
        go_roundw
        case rel => exact ⟨k + 1, by omega, by go_num, HN2.out, by first | exact hT2 | exact hT2.drew | exact below_dN hT2 _⟩
        case measure => simp [intOf]; omega
      | false =>
        have HN2 := hide (HM.out (of_decide_eq_false HP.out.symm))
        clear HN HM HP
        go_quiet (fail)
        go_wp2_with fail
        go_ret
        exact ⟨ret_bool HN2.out.symm, by first | exact hT2 | exact hT2.drew | exact below_dN hT2 _⟩
    · obtain rfl : k = n := by omega
      have HN : Hid (decide (xs = ys) = true) := by
        show _ = _
        have h := H.out
        rw [List.take_of_length_le (by omega), List.take_of_length_le (by omega)] at h
        simp [h]
      clear hx hy H
      go_wp2_with fail
      go_ret
      exact ⟨ret_bool HN.out.symm, hbel⟩
set_option maxRecDepth 100000 in
set_option maxHeartbeats 6400000 in
theorem spec_SameScene (w : World) (B : Nat) (hB : B ≤ w.heap.size) {v0 v1 v2 v3 v4 v5 v6 u0 u1 u2 u3 u4 u5 u6 : Value} {S S' : Scn} (h : SIn w B v0 v1 v2 v3 v4 v5 v6 S) (h' : SIn w B u0 u1 u2 u3 u4 u5 u6 S') :
    Calls Try.prog 16 #[.agg #[v0, v1, v2, v3, v4, v5, v6], .agg #[u0, u1, u2, u3, u4, u5, u6]] w fun e w' => e = .returned (.bool (sameSc S S')) ∧ Below w.heap.size w w' := by
  obtain ⟨Ra, ca, Oa, da, Ta, ea, sa, ⟨rfl, rfl, rfl, rfl, rfl, rfl, rfl⟩, hR, ⟨hO, hc⟩, hT, hwf⟩ := h
  obtain ⟨Rb, cb, Ob, db, Tb, eb, sb, ⟨rfl, rfl, rfl, rfl, rfl, rfl, rfl⟩, hR', ⟨hO', hc'⟩, hT', hwf'⟩ := h'
  have HR := hide (fun (W : World) (hb : Below w.heap.size w W) => spec_l10Same W B (Nat.le_trans hB hb.size) Ra Rb S.r.length ca S'.r.length cb S.r S'.r (hR.below (hb.mono hB)) (hR'.below (hb.mono hB)))
  have HT := hide (fun (W : World) (hb : Below w.heap.size w W) => spec_l10Same W B (Nat.le_trans hB hb.size) Ta Tb S.t.length ea S'.t.length eb S.t S'.t (hT.below (hb.mono hB)) (hT'.below (hb.mono hB)))
  have e1 := fun W => neq_vecS W S.lx S.ly S'.lx S'.ly
  have e2 := fun W => neq_vecS W S.hx S.hy S'.hx S'.hy
  have HE : Hid (sameSc S S' = (pairB S.lx S.ly S'.lx S'.ly && (pairB S.hx S.hy S'.hx S'.hy && (decide (S.r = S'.r) && (decide (cont sa = cont sb) && decide (S.t = S'.t)))))) := by show _ = _; rw [hc, hc']; rfl
  have HOS := hide (And.intro hO hO')
  have hla := hO.1
  have hlb := hO'.1
  have hl1 := hO.2.2.1
  have hl2 := hO'.2.2.1
  clear hR hR' hO hO' hT hT' hc hc' hwf hwf'
  generalize sameSc S S' = V at *
  generalize pairB S.lx S.ly S'.lx S'.ly = b1 at *
  generalize pairB S.hx S.hy S'.hx S'.hy = b2 at *
  generalize decide (S.r = S'.r) = b3 at *
  generalize decide (S.t = S'.t) = b5 at *
  generalize S.r.length = ra at *
  generalize S.t.length = ta at *
  generalize S'.r.length = rb at *
  generalize S'.t.length = tb at *
  generalize S.lx = alx at *
  generalize S.ly = aly at *
  generalize S.hx = ahx at *
  generalize S.hy = ahy at *
  generalize S'.lx = blx at *
  generalize S'.ly = bly at *
  generalize S'.hx = bhx at *
  generalize S'.hy = bhy at *
  generalize S.o.length = oa at *
  generalize S'.o.length = ob at *
  obtain ⟨W0, hW0⟩ : ∃ W0, W0 = (w.alloc (.cells #[.int .i64 alx, .int .i64 aly, .int .i64 ahx, .int .i64 ahy, .slice Ra ra ca, .slice Oa oa da, .slice Ta ta ea] 33)).alloc (.cells #[.int .i64 blx, .int .i64 bly, .int .i64 bhx, .int .i64 bhy, .slice Rb rb cb, .slice Ob ob db, .slice Tb tb eb] 33) := ⟨_, rfl⟩
  have hT0 : Below w.heap.size w W0 := by rw [hW0]; exact below_alloc (below_new _ _) _
  have kp : Box W0 w.heap.size 33 #[.int .i64 alx, .int .i64 aly, .int .i64 ahx, .int .i64 ahy, .slice Ra ra ca, .slice Oa oa da, .slice Ta ta ea] := by rw [hW0]; exact (Box.last _ _ _ rfl).alloc _
  have kq : Box W0 (w.heap.size + 1) 33 #[.int .i64 blx, .int .i64 bly, .int .i64 bhx, .int .i64 bhy, .slice Rb rb cb, .slice Ob ob db, .slice Tb tb eb] := by rw [hW0]; exact Box.last _ _ _ (alloc_size _ _).symm
  go_enter Try.func16, Try.ntmps16
  go_upto_region 1 with fail
  rw [← hW0]
  clear hW0
  cases b1 with
  | false =>
    obtain ⟨yp0, yp1, yp2, yp3, yp4, yp5, yp6⟩ := kp.cells7
    obtain ⟨yq0, yq1, yq2, yq3, yq4, yq5, yq6⟩ := kq.cells7
    go_wp2_with fail
    go_ret
    exact ⟨by rw [HE.out]; rfl, hT0⟩
  | true =>
  cases b2 with
  | false =>
    obtain ⟨yp0, yp1, yp2, yp3, yp4, yp5, yp6⟩ := kp.cells7
    obtain ⟨yq0, yq1, yq2, yq3, yq4, yq5, yq6⟩ := kq.cells7
    go_wp2_with fail
    go_ret
    exact ⟨by rw [HE.out]; rfl, hT0⟩
  | true =>
  by_cases hne : oa = ob
  case neg =>
    have g1 : ((oa : Int) != (ob : Int)) = true := by simp; omega
    have HD : Hid (decide (cont sa = cont sb) = false) := by
      show _ = _
      simp
      intro e
      have := congrArg List.length e
      rw [cont_len, cont_len] at this
      omega
    clear hne hla hlb
    obtain ⟨yp0, yp1, yp2, yp3, yp4, yp5, yp6⟩ := kp.cells7
    obtain ⟨yq0, yq1, yq2, yq3, yq4, yq5, yq6⟩ := kq.cells7
    go_wp2_with fail
    go_ret
    exact ⟨by rw [HE.out, HD.out]; cases b3 <;> rfl, hT0⟩
  subst hne
  have g1 : ((oa : Int) != (oa : Int)) = false := by simp
  cases b3 with
  | false =>
    obtain ⟨yp0, yp1, yp2, yp3, yp4, yp5, yp6⟩ := kp.cells7
    obtain ⟨yq0, yq1, yq2, yq3, yq4, yq5, yq6⟩ := kq.cells7
    go_wp2_with fail
    refine (HR.out _ hT0).mono ?_
    rintro e w1 ⟨rfl, hb1⟩
    clear yp0 yp1 yp2 yp3 yp4 yp5 yp6 yq0 yq1 yq2 yq3 yq4 yq5 yq6
    have kp := kp.below hb1 kp.lt
    have kq := kq.below hb1 kq.lt
    have hT1 := below_then hT0 hb1
    clear hb1 hT0
    obtain ⟨yp0, yp1, yp2, yp3, yp4, yp5, yp6⟩ := kp.cells7
    obtain ⟨yq0, yq1, yq2, yq3, yq4, yq5, yq6⟩ := kq.cells7
    go_wp2_with fail
    go_ret
    exact ⟨by rw [HE.out]; rfl, hT1⟩
  | true =>
  cases b5 with
  | false =>
    obtain ⟨yp0, yp1, yp2, yp3, yp4, yp5, yp6⟩ := kp.cells7
    obtain ⟨yq0, yq1, yq2, yq3, yq4, yq5, yq6⟩ := kq.cells7
    go_wp2_with fail
    refine (HR.out _ hT0).mono ?_
    rintro e w1 ⟨rfl, hb1⟩
    clear yp0 yp1 yp2 yp3 yp4 yp5 yp6 yq0 yq1 yq2 yq3 yq4 yq5 yq6
    have kp := kp.below hb1 kp.lt
    have kq := kq.below hb1 kq.lt
    have hT1 := below_then hT0 hb1
    clear hb1 hT0
    obtain ⟨yp0, yp1, yp2, yp3, yp4, yp5, yp6⟩ := kp.cells7
    obtain ⟨yq0, yq1, yq2, yq3, yq4, yq5, yq6⟩ := kq.cells7
    go_wp2_with fail
    refine (HT.out _ hT1).mono ?_
    rintro e w2 ⟨rfl, hb2⟩
    clear yp0 yp1 yp2 yp3 yp4 yp5 yp6 yq0 yq1 yq2 yq3 yq4 yq5 yq6
    have kp := kp.below hb2 kp.lt
    have kq := kq.below hb2 kq.lt
    have hT2 := below_then hT1 hb2
    clear hb2 hT1
    obtain ⟨yp0, yp1, yp2, yp3, yp4, yp5, yp6⟩ := kp.cells7
    obtain ⟨yq0, yq1, yq2, yq3, yq4, yq5, yq6⟩ := kq.cells7
    go_wp2_with fail
    go_ret
    exact ⟨by rw [HE.out]; cases (decide (cont sa = cont sb)) <;> rfl, hT2⟩
  | true =>
  obtain ⟨yp0, yp1, yp2, yp3, yp4, yp5, yp6⟩ := kp.cells7
  obtain ⟨yq0, yq1, yq2, yq3, yq4, yq5, yq6⟩ := kq.cells7
  go_wp2_with fail
  refine (HR.out _ hT0).mono ?_
  rintro e w1 ⟨rfl, hb1⟩
  clear yp0 yp1 yp2 yp3 yp4 yp5 yp6 yq0 yq1 yq2 yq3 yq4 yq5 yq6
  have kp := kp.below hb1 kp.lt
  have kq := kq.below hb1 kq.lt
  have hT1 := below_then hT0 hb1
  clear hb1 hT0
  obtain ⟨yp0, yp1, yp2, yp3, yp4, yp5, yp6⟩ := kp.cells7
  obtain ⟨yq0, yq1, yq2, yq3, yq4, yq5, yq6⟩ := kq.cells7
  go_wp2_with fail
  refine (HT.out _ hT1).mono ?_
  rintro e w2 ⟨rfl, hb2⟩
  clear yp0 yp1 yp2 yp3 yp4 yp5 yp6 yq0 yq1 yq2 yq3 yq4 yq5 yq6
  have kp := kp.below hb2 kp.lt
  have kq := kq.below hb2 kq.lt
  have hT2 := below_then hT1 hb2
  clear hb2 hT1
  obtain ⟨yp0, yp1, yp2, yp3, yp4, yp5, yp6⟩ := kp.cells7
  obtain ⟨yq0, yq1, yq2, yq3, yq4, yq5, yq6⟩ := kq.cells7
  clear HR HT
  go_wp2_with fail
  go_loopw [47] (fun i wr => ∃ k : Nat, k ≤ oa ∧ i = .int .i64 k ∧ Hid ((cont sa).take k = (cont sb).take k) ∧ Below w2.heap.size w2 wr) (fun i _ => oa - (intOf i).toNat)
  case atStart => exact ⟨0, Nat.zero_le _, rfl, by show _ = _; simp, Below.refl _ _⟩
  case round =>
    clear yp0 yp1 yp2 yp3 yp4 yp5 yp6 yq0 yq1 yq2 yq3 yq4 yq5 yq6
    obtain ⟨k, hk, rfl, H, hbel⟩ := hrel
    have kp := kp.below hbel kp.lt
    have kq := kq.below hbel kq.lt
    have hT3 := below_then hT2 hbel
    have hs3 := hT3.size
    by_cases hlt : k < oa
    · have hkx : k < sa.length := by omega
      have hky : k < sb.length := by omega
      obtain ⟨ad, hA, hb1, hc1⟩ := (HOS.out.1.2.1.below (hT3.mono hB)).sl hkx
      obtain ⟨ae, hE, hb3, hc3⟩ := (HOS.out.2.2.1.below (hT3.mono hB)).sl hky
      have HV := hide (spec_l10Same wr B (by omega) sa[k].a sb[k].a sa[k].vs.length sa[k].c sb[k].vs.length sb[k].c sa[k].vs sb[k].vs ((HOS.out.1.2.2.2 _ (List.getElem_mem hkx)).below (hT3.mono hB)) ((HOS.out.2.2.2.2 _ (List.getElem_mem hky)).below (hT3.mono hB)))
      have hj0 : (0 : Int) ≤ (k : Int) := Int.natCast_nonneg _
      have hj1 : (k : Int) < (oa : Int) := by omega
      have HN : Hid (sa[k].vs = sb[k].vs → (cont sa).take (k + 1) = (cont sb).take (k + 1)) := cont_take_step hkx hky H.out
      have HM : Hid (sa[k].vs ≠ sb[k].vs → decide (cont sa = cont sb) = false) := fun hne => decide_eq_false fun e => hne (by
        have h1 := cont_at hkx
        have h2 := cont_at hky
        rw [← h1, ← h2]; congr 1)
      obtain ⟨b, hb⟩ : ∃ b, b = decide (sa[k].vs = sb[k].vs) := ⟨_, rfl⟩
      have HB := hide hb
      rw [← hb] at HV
      generalize sa[k].vs.length = m1 at *
      generalize sa[k].a = A1 at *
      generalize sa[k].c = c1 at *
      generalize sb[k].vs.length = m2 at *
      generalize sb[k].a = A2 at *
      generalize sb[k].c = c2 at *
      clear H hb
      subst hA
      subst hE
      obtain ⟨yq0, yq1, yq2, yq3, yq4, yq5, yq6⟩ := kq.cells7
      cases b with
      | true =>
        have HN2 := hide (HN.out (of_decide_eq_true HB.out.symm))
        clear HN HM HB
        go_wp2_with fail
        refine HV.out.mono ?_
        rintro e w3 ⟨rfl, hb3⟩
        go_wp2_with fail
        go_roundw
        case rel => exact ⟨k + 1, by omega, by go_num, HN2.out, below_then hbel hb3⟩
        case measure => simp [intOf]; omega
      | false =>
        have HN2 := hide (HM.out (of_decide_eq_false HB.out.symm))
        clear HN HM HB
        go_wp2_with fail
        refine HV.out.mono ?_
        rintro e w3 ⟨rfl, hb3⟩
        go_wp2_with fail
        go_ret
        exact ⟨by rw [HE.out, HN2.out]; rfl, below_then hT3 hb3⟩
    · obtain rfl : k = oa := by omega
      have HN : Hid (decide (cont sa = cont sb) = true) := by
        show _ = _
        have h := H.out
        rw [List.take_of_length_le (by rw [cont_len]; omega), List.take_of_length_le (by rw [cont_len]; omega)] at h
        simp [h]
      clear H HOS
      go_wp2_with fail
      go_ret
      exact ⟨by rw [HE.out, HN.out]; rfl, hT3⟩
end Go.Proofs.Ytffabmdcgcinmab
