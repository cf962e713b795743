/-
  The program's scenes: contracts (5): SameScene.
-/
import Derived.Test.YtffabmdcgcinmabSB
import Derived.Test.YtffabmdcgcinmabEqV
namespace Go.Proofs.Ytffabmdcgcinmab
open Go.RowKit
set_option linter.unusedVariables false
def pairB (a b c d : Int) : Bool := a == c && b == d
theorem pair_ne (x y x' y' : Int) : ((x == x') && (y == y')) = decide ((x, y) = (x', y')) := by
  rw [Bool.eq_iff_iff]; simp
/-- two scenes are equal -/
def sameSc (a b : Scn) : Bool := pairB a.lx a.ly b.lx b.ly && (pairB a.hx a.hy b.hx b.hy && (decide (a.r = b.r) && (decide (a.o = b.o) && decide (a.t = b.t))))
theorem cont_take_step {ss tt : List Sl} {k : Nat} (hk : k < ss.length) (hk' : k < tt.length) (h : (cont ss).take k = (cont tt).take k) (e : ss[k].vs = tt[k].vs) : (cont ss).take (k + 1) = (cont tt).take (k + 1) := by
  rw [List.take_succ_eq_append_getElem (by rw [cont_len]; exact hk), List.take_succ_eq_append_getElem (by rw [cont_len]; exact hk'), h, cont_at hk, cont_at hk', e]
theorem slices_EqualB (w : World) (B : Nat) (hB : B ≤ w.heap.size) (A D : Option Addr) (n c m d : Nat) (xs ys : List V2) (hx : RdV w B A n xs) (hy : RdV w B D m ys) :
    Calls Try.prog 41 #[.slice A n c, .slice D m d] w fun e w' => e = .returned (.bool (decide (xs = ys))) ∧ Below w.heap.size w w' :=
  (slices_Equal w B hB A D n c m d xs ys hx.1 hy.1 hx.2.1 hy.2.1 hx.2.2.1 hy.2.2.1).mono fun e w' ⟨he, q, hq⟩ => ⟨he, by subst hq; exact below_dN (Below.refl _ _) q⟩
set_option maxRecDepth 100000 in
set_option maxHeartbeats 3200000 in
theorem slices_EqualFuncS (w : World) (B : Nat) (hB : B ≤ w.heap.size) (A D : Option Addr) (n c m d : Nat) (ss tt : List Sl) (R : RdS w B A n ss) (S : RdS w B D m tt) :
    Calls Try.prog 42 #[.slice A n c, .slice D m d, .func (.func 41) #[] #[]] w fun e w' => e = .returned (.bool (decide (cont ss = cont tt))) ∧ Below w.heap.size w w' := by
  obtain ⟨hn, hx, hl, hs⟩ := R
  obtain ⟨hm, hy, hl2, ht⟩ := S
  by_cases hnm : n = m
  case neg =>
    have hd : decide (cont ss = cont tt) = false := by
      simp
      intro e
      have := congrArg List.length e
      rw [cont_len, cont_len] at this
      omega
    have hne : ((n : Int) != (m : Int)) = true := by simp; omega
    rw [hd]
    clear hx hy hd
    go_enter Try.func42, Try.ntmps42
    go_wp2_with fail
    go_ret
    exact ⟨rfl, Below.refl _ _⟩
  subst hnm
  have hq : ((n : Int) != (n : Int)) = false := by simp
  go_enter Try.func42, Try.ntmps42
  go_wp2_with fail
  clear hq
  go_loopw [17] (fun i wr => ∃ k : Nat, k ≤ n ∧ i = .int .i64 k ∧ Hid ((cont ss).take k = (cont tt).take k) ∧ Below w.heap.size w wr) (fun i _ => n - (intOf i).toNat)
  case atStart => exact ⟨0, Nat.zero_le _, rfl, by show _ = _; simp, Below.refl _ _⟩
  case round =>
    obtain ⟨k, hk, rfl, H, hbel⟩ := hrel
    have hbs := hbel.size
    by_cases hlt : k < n
    · have hkx : k < ss.length := by omega
      have hky : k < tt.length := by omega
      obtain ⟨ad, hA, hb1, hc1⟩ := (hx.below (hbel.mono hB)).sl hkx
      obtain ⟨ae, hE, hb3, hc3⟩ := (hy.below (hbel.mono hB)).sl hky
      have HV := hide (slices_EqualB wr B (by omega) ss[k].a tt[k].a ss[k].vs.length ss[k].c tt[k].vs.length tt[k].c ss[k].vs tt[k].vs ((hs _ (List.getElem_mem hkx)).below (hbel.mono hB)) ((ht _ (List.getElem_mem hky)).below (hbel.mono hB)))
      have hj0 : (0 : Int) ≤ (k : Int) := Int.natCast_nonneg _
      have hj1 : (k : Int) < (n : Int) := by omega
      have HN : Hid (ss[k].vs = tt[k].vs → (cont ss).take (k + 1) = (cont tt).take (k + 1)) := cont_take_step hkx hky H.out
      have HM : Hid (ss[k].vs ≠ tt[k].vs → decide (cont ss = cont tt) = false) := fun hne => decide_eq_false fun e => hne (by
        have h1 := cont_at hkx
        have h2 := cont_at hky
        rw [← h1, ← h2]; congr 1)
      obtain ⟨b, hb⟩ : ∃ b, b = decide (ss[k].vs = tt[k].vs) := ⟨_, rfl⟩
      have HB := hide hb
      rw [← hb] at HV
      generalize ss[k].vs.length = m1 at *
      generalize ss[k].a = A1 at *
      generalize ss[k].c = c1 at *
      generalize tt[k].vs.length = m2 at *
      generalize tt[k].a = A2 at *
      generalize tt[k].c = c2 at *
      clear H hx hy hs ht hb
      subst hA
      subst hE
      cases b with
      | true =>
        have HN2 := hide (HN.out (of_decide_eq_true HB.out.symm))
        clear HN HM HB
        go_wp2_with fail
        refine HV.out.mono ?_
        rintro e w1 ⟨rfl, hb1⟩
        go_wp2_with fail
        go_roundw
        case rel => exact ⟨k + 1, by omega, by go_num, HN2.out, hbel.trans (hb1.mono hbs)⟩
        case measure => simp [intOf]; omega
      | false =>
        have HN2 := hide (HM.out (of_decide_eq_false HB.out.symm))
        clear HN HM HB
        go_wp2_with fail
        refine HV.out.mono ?_
        rintro e w1 ⟨rfl, hb1⟩
        go_wp2_with fail
        go_ret
        exact ⟨ret_bool HN2.out.symm, hbel.trans (hb1.mono hbs)⟩
    · obtain rfl : k = n := by omega
      have HN : Hid (decide (cont ss = cont tt) = true) := by
        show _ = _
        have h := H.out
        rw [List.take_of_length_le (by rw [cont_len]; omega), List.take_of_length_le (by rw [cont_len]; omega)] at h
        simp [h]
      clear hx hy H hs ht
      go_wp2_with fail
      go_ret
      exact ⟨ret_bool HN.out.symm, hbel⟩
theorem eql_vecS (W : World) (a b c d : Int) : (binOp .eql 29 (.agg #[.int .i64 a, .int .i64 b]) (.agg #[.int .i64 c, .int .i64 d])).run Try.prog W = .ok (.bool (pairB a b c d)) W := by
  rw [run_eql_struct]
  unfold pairB
  go_simp
  by_cases h1 : a = c <;> by_cases h2 : b = d <;> simp [h1, h2]
set_option maxRecDepth 100000 in
set_option maxHeartbeats 6400000 in
theorem impl_SameScene (w : World) (B : Nat) (hB : B ≤ w.heap.size) {v0 v1 v2 v3 v4 v5 v6 u0 u1 u2 u3 u4 u5 u6 : Value} {S S' : Scn} (h : SIn w B v0 v1 v2 v3 v4 v5 v6 S) (h' : SIn w B u0 u1 u2 u3 u4 u5 u6 S') :
    Calls Try.prog 17 #[.agg #[v0, v1, v2, v3, v4, v5, v6], .agg #[u0, u1, u2, u3, u4, u5, u6]] w fun e w' => e = .returned (.bool (sameSc S S')) ∧ Below w.heap.size w w' := by
  obtain ⟨Ra, ca, Oa, da, Ta, ea, sa, ⟨rfl, rfl, rfl, rfl, rfl, rfl, rfl⟩, hR, ⟨hO, hc⟩, hT, hwf⟩ := h
  obtain ⟨Rb, cb, Ob, db, Tb, eb, sb, ⟨rfl, rfl, rfl, rfl, rfl, rfl, rfl⟩, hR', ⟨hO', hc'⟩, hT', hwf'⟩ := h'
  have HR := hide (fun (W : World) (hb : Below w.heap.size w W) => slices_EqualB W B (Nat.le_trans hB hb.size) Ra Rb S.r.length ca S'.r.length cb S.r S'.r (hR.below (hb.mono hB)) (hR'.below (hb.mono hB)))
  have HT := hide (fun (W : World) (hb : Below w.heap.size w W) => slices_EqualB W B (Nat.le_trans hB hb.size) Ta Tb S.t.length ea S'.t.length eb S.t S'.t (hT.below (hb.mono hB)) (hT'.below (hb.mono hB)))
  have HO := hide (fun (W : World) (hb : Below w.heap.size w W) => slices_EqualFuncS W B (Nat.le_trans hB hb.size) Oa Ob S.o.length da S'.o.length db sa sb (hO.below (hb.mono hB)) (hO'.below (hb.mono hB)))
  rw [hc, hc'] at HO
  have e1 := fun W => eql_vecS W S.lx S.ly S'.lx S'.ly
  have e2 := fun W => eql_vecS W S.hx S.hy S'.hx S'.hy
  have HE : Hid (sameSc S S' = (pairB S.lx S.ly S'.lx S'.ly && (pairB S.hx S.hy S'.hx S'.hy && (decide (S.r = S'.r) && (decide (S.o = S'.o) && decide (S.t = S'.t)))))) := rfl
  clear hR hR' hO hO' hT hT' hc hc' hwf hwf'
  generalize sameSc S S' = V at *
  generalize pairB S.lx S.ly S'.lx S'.ly = b1 at *
  generalize pairB S.hx S.hy S'.hx S'.hy = b2 at *
  generalize decide (S.r = S'.r) = b3 at *
  generalize decide (S.o = S'.o) = b4 at *
  generalize decide (S.t = S'.t) = b5 at *
  generalize S.r.length = ra at *
  generalize S.t.length = ta at *
  generalize S'.r.length = rb at *
  generalize S'.t.length = tb at *
  generalize S.lx = alx at *
  generalize S.ly = aly at *
  generalize S.hx = ahx at *
  generalize S.hy = ahy at *
  generalize S'.lx = blx at *
  generalize S'.ly = bly at *
  generalize S'.hx = bhx at *
  generalize S'.hy = bhy at *
  generalize S.o.length = oa at *
  generalize S'.o.length = ob at *
  obtain ⟨W0, hW0⟩ : ∃ W0, W0 = (w.alloc (.cells #[.int .i64 alx, .int .i64 aly, .int .i64 ahx, .int .i64 ahy, .slice Ra ra ca, .slice Oa oa da, .slice Ta ta ea] 33)).alloc (.cells #[.int .i64 blx, .int .i64 bly, .int .i64 bhx, .int .i64 bhy, .slice Rb rb cb, .slice Ob ob db, .slice Tb tb eb] 33) := ⟨_, rfl⟩
  have hT0 : Below w.heap.size w W0 := by rw [hW0]; exact below_alloc (below_new _ _) _
  have kp : Box W0 w.heap.size 33 #[.int .i64 alx, .int .i64 aly, .int .i64 ahx, .int .i64 ahy, .slice Ra ra ca, .slice Oa oa da, .slice Ta ta ea] := by rw [hW0]; exact (Box.last _ _ _ rfl).alloc _
  have kq : Box W0 (w.heap.size + 1) 33 #[.int .i64 blx, .int .i64 bly, .int .i64 bhx, .int .i64 bhy, .slice Rb rb cb, .slice Ob ob db, .slice Tb tb eb] := by rw [hW0]; exact Box.last _ _ _ (alloc_size _ _).symm
  go_enter Try.func17, Try.ntmps17
  go_upto_region 1 with fail
  rw [← hW0]
  clear hW0
  cases b1 with
  | false =>
    obtain ⟨yp0, yp1, yp2, yp3, yp4, yp5, yp6⟩ := kp.cells7
    obtain ⟨yq0, yq1, yq2, yq3, yq4, yq5, yq6⟩ := kq.cells7
    go_wp2_with fail
    go_ret
    exact ⟨by rw [HE.out]; first | rfl | (cases b5 <;> rfl), hT0⟩
  | true =>
  cases b2 with
  | false =>
    obtain ⟨yp0, yp1, yp2, yp3, yp4, yp5, yp6⟩ := kp.cells7
    obtain ⟨yq0, yq1, yq2, yq3, yq4, yq5, yq6⟩ := kq.cells7
    go_wp2_with fail
    go_ret
    exact ⟨by rw [HE.out]; first | rfl | (cases b5 <;> rfl), hT0⟩
  | true =>
  cases b3 with
  | false =>
    obtain ⟨yp0, yp1, yp2, yp3, yp4, yp5, yp6⟩ := kp.cells7
    obtain ⟨yq0, yq1, yq2, yq3, yq4, yq5, yq6⟩ := kq.cells7
    go_wp2_with fail
    refine (HR.out _ hT0).mono ?_
    rintro e w1 ⟨rfl, hb1⟩
    clear yp0 yp1 yp2 yp3 yp4 yp5 yp6 yq0 yq1 yq2 yq3 yq4 yq5 yq6
    have kp := kp.below hb1 kp.lt
    have kq := kq.below hb1 kq.lt
    have hT1 := below_then hT0 hb1
    clear hb1 hT0
    obtain ⟨yp0, yp1, yp2, yp3, yp4, yp5, yp6⟩ := kp.cells7
    obtain ⟨yq0, yq1, yq2, yq3, yq4, yq5, yq6⟩ := kq.cells7
    go_wp2_with fail
    go_ret
    exact ⟨by rw [HE.out]; first | rfl | (cases b5 <;> rfl), hT1⟩
  | true =>
  cases b4 with
  | false =>
    obtain ⟨yp0, yp1, yp2, yp3, yp4, yp5, yp6⟩ := kp.cells7
    obtain ⟨yq0, yq1, yq2, yq3, yq4, yq5, yq6⟩ := kq.cells7
    go_wp2_with fail
    refine (HR.out _ hT0).mono ?_
    rintro e w1 ⟨rfl, hb1⟩
    clear yp0 yp1 yp2 yp3 yp4 yp5 yp6 yq0 yq1 yq2 yq3 yq4 yq5 yq6
    have kp := kp.below hb1 kp.lt
    have kq := kq.below hb1 kq.lt
    have hT1 := below_then hT0 hb1
    clear hb1 hT0
    obtain ⟨yp0, yp1, yp2, yp3, yp4, yp5, yp6⟩ := kp.cells7
    obtain ⟨yq0, yq1, yq2, yq3, yq4, yq5, yq6⟩ := kq.cells7
    go_wp2_with fail
    refine (HO.out _ hT1).mono ?_
    rintro e w2 ⟨rfl, hb2⟩
    clear yp0 yp1 yp2 yp3 yp4 yp5 yp6 yq0 yq1 yq2 yq3 yq4 yq5 yq6
    have kp := kp.below hb2 kp.lt
    have kq := kq.below hb2 kq.lt
    have hT2 := below_then hT1 hb2
    clear hb2 hT1
    obtain ⟨yp0, yp1, yp2, yp3, yp4, yp5, yp6⟩ := kp.cells7
    obtain ⟨yq0, yq1, yq2, yq3, yq4, yq5, yq6⟩ := kq.cells7
    go_wp2_with fail
    go_ret
    exact ⟨by rw [HE.out]; first | rfl | (cases b5 <;> rfl), hT2⟩
  | true =>
    obtain ⟨yp0, yp1, yp2, yp3, yp4, yp5, yp6⟩ := kp.cells7
    obtain ⟨yq0, yq1, yq2, yq3, yq4, yq5, yq6⟩ := kq.cells7
    go_wp2_with fail
    refine (HR.out _ hT0).mono ?_
    rintro e w1 ⟨rfl, hb1⟩
    clear yp0 yp1 yp2 yp3 yp4 yp5 yp6 yq0 yq1 yq2 yq3 yq4 yq5 yq6
    have kp := kp.below hb1 kp.lt
    have kq := kq.below hb1 kq.lt
    have hT1 := below_then hT0 hb1
    clear hb1 hT0
    obtain ⟨yp0, yp1, yp2, yp3, yp4, yp5, yp6⟩ := kp.cells7
    obtain ⟨yq0, yq1, yq2, yq3, yq4, yq5, yq6⟩ := kq.cells7
    go_wp2_with fail
    refine (HO.out _ hT1).mono ?_
    rintro e w2 ⟨rfl, hb2⟩
    clear yp0 yp1 yp2 yp3 yp4 yp5 yp6 yq0 yq1 yq2 yq3 yq4 yq5 yq6
    have kp := kp.below hb2 kp.lt
    have kq := kq.below hb2 kq.lt
    have hT2 := below_then hT1 hb2
    clear hb2 hT1
    obtain ⟨yp0, yp1, yp2, yp3, yp4, yp5, yp6⟩ := kp.cells7
    obtain ⟨yq0, yq1, yq2, yq3, yq4, yq5, yq6⟩ := kq.cells7
    go_wp2_with fail
    refine (HT.out _ hT2).mono ?_
    rintro e w3 ⟨rfl, hb3⟩
    clear yp0 yp1 yp2 yp3 yp4 yp5 yp6 yq0 yq1 yq2 yq3 yq4 yq5 yq6
    have kp := kp.below hb3 kp.lt
    have kq := kq.below hb3 kq.lt
    have hT3 := below_then hT2 hb3
    clear hb3 hT2
    obtain ⟨yp0, yp1, yp2, yp3, yp4, yp5, yp6⟩ := kp.cells7
    obtain ⟨yq0, yq1, yq2, yq3, yq4, yq5, yq6⟩ := kq.cells7
    go_wp2_with fail
    go_ret
    exact ⟨by rw [HE.out]; first | rfl | (cases b5 <;> rfl), hT3⟩
end Go.Proofs.Ytffabmdcgcinmab
