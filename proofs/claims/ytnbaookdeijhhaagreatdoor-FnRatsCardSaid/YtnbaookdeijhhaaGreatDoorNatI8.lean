/-
  The program's natural numbers: contracts (8): divideLimbs, NatDiv.
-/
import Derived.Test.YtnbaookdeijhhaaGreatDoorIB
namespace Go.Proofs.YtnbaookdeijhhaaGreatDoor
open Go.RowKit
set_option linter.unusedVariables false

theorem Own.addr {w : World} {lo hi n c : Nat} {E : TypeId} {A : Option Addr} {xs : List Value} (o : Own w lo hi E (.slice A n c) n xs) (h0 : 0 < n) : ∃ ad, A = some ad ∧ lo ≤ ad.block ∧ ad.block < hi := by
  rcases o.2 with ⟨h1, h2⟩ | ⟨g, c', cur, hv, hb, hg, _⟩
  · omega
  · injection hv with hv _ _
    exact ⟨_, hv, hb, hg⟩
theorem Two.of {w w' : World} {E : TypeId} {v1 v2 : Value} {xs ys : List Int} {l1 h1 l2 h2 : Nat} (a : Own w' l1 h1 E v1 xs.length (iv xs)) (b : Own w' l2 h2 E v2 ys.length (iv ys)) (e1 : w.heap.size ≤ l1) (e2 : w.heap.size ≤ l2) (e3 : h1 ≤ w'.heap.size) (e4 : h2 ≤ w'.heap.size) (e5 : h1 ≤ l2 ∨ h2 ≤ l1) : Two w w' E v1 xs v2 ys := ⟨l1, h1, l2, h2, a, b, e1, e2, e3, e4, e5⟩
set_option maxHeartbeats 1600000 in
theorem impl_Div_less (w : World) (B : Nat) (hB : B ≤ w.heap.size) (A A' : Option Addr) (n m c c' : Nat) (xs ys : List Int) (hn : xs.length = n) (hm : ys.length = m) (hx : Rd w B A (iv xs)) (hl : n ≤ 10000) (hl' : m ≤ 10000) (hcx : Canon xs) (hcy : Canon ys) (hnm : n < m) :
    Calls Tryz.prog 175 #[.slice A n c, .slice A' m c'] w fun e w' => ∃ v1 v2, e = .returned (.tuple #[v1, v2]) ∧ Two w w' 3 v1 (limbs (val xs / val ys).toNat) v2 (limbs (val xs % val ys).toNat) ∧ Below w.heap.size w w' := by
  have hlt := val_lt_len hcx.1 hcy (by omega)
  have h0 := val_nonneg hcx.1
  have HE : Hid (limbs (val xs / val ys).toNat = [] ∧ limbs (val xs % val ys).toNat = xs) := by
    refine ⟨?_, ?_⟩
    · rw [Int.ediv_eq_zero_of_lt h0 hlt]; exact limbs_zero
    · rw [Int.emod_eq_of_lt h0 hlt]; exact limbs_val hcx
  have HW := hide (impl_widened w B hB A n c n xs hn hx (Nat.le_refl _) (by omega))
  have HN := hide hn
  clear hx hcx hcy hn hm
  go_enter Tryz.func175, Tryz.ntmps175
  go_wp2_with fail
  refine HW.out.mono ?_
  rintro e w1 ⟨g, rfl, hg, hblk, hb⟩
  have HO := hide (hblk.own n n (by simp [HN.out]) (by simp [HN.out]))
  have hgs := hblk.lt
  clear hblk
  go_wp2_with fail
  go_ret2
  refine ⟨_, _, rfl, ?_, hb⟩
  rw [HE.out.1, HE.out.2]
  refine Two.of (Own.nil _ w.heap.size w.heap.size _) (l2 := g) (h2 := g + 1) ?_ (Nat.le_refl _) hg hb.size hgs (.inl hg)
  have := HO.out
  rw [Nat.sub_self, List.replicate_zero, List.append_nil, List.take_of_length_le (by rw [HN.out]; omega)] at this
  rw [HN.out]
  exact this
set_option maxHeartbeats 1600000 in
theorem impl_Div_one (w : World) (B : Nat) (hB : B ≤ w.heap.size) (A A' : Option Addr) (n c c' : Nat) (xs : List Int) (d : Int) (hn : xs.length = n) (hx : Rd w B A (iv xs)) (hy : Rd w B A' (iv [d])) (hl : n ≤ 10000) (hcx : Canon xs) (hd0 : 1 ≤ d) (hd1 : d ≤ 999999999) (hn0 : 1 ≤ n) :
    Calls Tryz.prog 175 #[.slice A n c, .slice A' 1 c'] w fun e w' => ∃ v1 v2, e = .returned (.tuple #[v1, v2]) ∧ Two w w' 3 v1 (limbs (val xs / d).toNat) v2 (limbs (val xs % d).toNat) ∧ Below w.heap.size w w' := by
  obtain ⟨ad, hA, hb1, hc1⟩ := hy.int (k := 0) (by simp)
  have hc1' : w.cell? ad = some (.int .i64 d) := by have : w.cell? (ad.add 0) = some (.int .i64 d) := hc1
                                                    rwa [add_zero'] at this
  have HS := hide (impl_ByLimb w B hB A n c xs d hn hx (by omega) hcx.1 hd0 hd1)
  have hr0 := Int.emod_nonneg (val xs) (show d ≠ 0 by omega)
  have hr1 := Int.emod_lt_of_pos (val xs) (show 0 < d by omega)
  generalize val xs % d = r at *
  have HO := hide (fun w1 : World => impl_NatOf w1 w1.heap.size (Nat.le_refl _) r (WalkArith.wf_i64 ⟨by omega, by omega⟩))
  clear hx hy hcx hc1
  subst hA
  go_enter Tryz.func175, Tryz.ntmps175
  go_wp2_with fail
  refine HS.out.mono ?_
  rintro e w1 ⟨v1, rfl, o1, hb1⟩
  have O1 := hide o1
  have HB1 := hide hb1
  have hs1 := hb1.size
  clear o1 hb1
  go_wp2_with fail
  refine (HO.out w1).mono ?_
  rintro e w2 ⟨v2, rfl, o2, hb2⟩
  have O2 := hide o2
  have HB2 := hide hb2
  have hs2 := hb2.size
  clear o2 hb2
  go_wp2_with fail
  go_ret2
  exact ⟨_, _, rfl, Two.of (O1.out.below HB2.out (Nat.le_refl _)) O2.out (Nat.le_refl _) hs1 hs2 (Nat.le_refl _) (.inl (Nat.le_refl _)), HB1.out.trans (HB2.out.mono hs1)⟩

set_option maxRecDepth 100000 in
set_option maxHeartbeats 6400000 in
theorem impl_Div_long (w : World) (B : Nat) (hB : B ≤ w.heap.size) (A A' : Option Addr) (n m c c' : Nat) (xs ys : List Int) (hn : xs.length = n) (hm : ys.length = m) (hx : Rd w B A (iv xs)) (hy : Rd w B A' (iv ys)) (hl : n ≤ 10000) (hcx : Canon xs) (hcy : Canon ys) (hmn : m ≤ n) (hm2 : 2 ≤ m) :
    Calls Tryz.prog 175 #[.slice A n c, .slice A' m c'] w fun e w' => ∃ v1 v2, e = .returned (.tuple #[v1, v2]) ∧ Two w w' 3 v1 (limbs (val xs / val ys).toNat) v2 (limbs (val xs % val ys).toNat) ∧ Below w.heap.size w w' := by
  have hYp : 0 < val ys := val_pos hcy (fun e => by subst e; simp at hm; omega)
  have hX0 := val_nonneg hcx.1
  obtain ⟨s1, s2, s3, s4⟩ := scaled_div hcy hm (by omega)
  have htop := top_pos hcy hm (by omega)
  obtain ⟨ad, hA, hab, hc1⟩ := hy.int (k := m - 1) (by omega)
  obtain ⟨t, ht⟩ : ∃ t, t = ys[m - 1] := ⟨_, rfl⟩
  rw [← ht] at s1 s2 s3 s4 htop hc1
  obtain ⟨s, hs⟩ : ∃ s, s = 1000000000 / (t + 1) := ⟨_, rfl⟩
  rw [← hs] at s1 s2 s3 s4
  have hsd : (1000000000 : Int).tdiv (t + 1) = s := by rw [hs]; exact Int.tdiv_eq_ediv_of_nonneg (by omega)
  -- the divisor
  obtain ⟨N, hN⟩ : ∃ N : Nat, (N : Int) = s * val ys := ⟨(s * val ys).toNat, by have := Int.mul_nonneg (show (0 : Int) ≤ s by omega) (Int.le_of_lt hYp); omega⟩
  have hNl : (limbs N).length = m := limbs_len_eq (by
      rw [pow_cast, ← hN] at s3
      exact Int.ofNat_lt.1 s3) (by
      have h1 : (1000000000 : Int) ^ (m - 1) ≤ s * 1000000000 ^ (m - 1) := by
        have := Int.mul_le_mul_of_nonneg_right s1 (Int.le_of_lt (pow_pos' (m - 1)))
        omega
      rw [pow_cast] at h1 s4
      exact Int.ofNat_le.1 (by omega)) (by omega)
  have hND : (N : Int) < 1000000000 ^ m := by rw [hN]; exact s3
  have hN0 : 0 < (N : Int) := by rw [hN]; exact Int.mul_pos (by omega) hYp
  have HTR : Hid (∀ out : List Int, out.length = m + 1 → Limbs (out.take m) → val out = s * val ys → trim out = limbs N) := fun out hl2 ho hv =>
    trim_eq (limbs_of_val hl2 (by omega) (by simpa using ho) (by omega) (by
      have e2 : (1000000000 : Int) ^ (m + 1) = 1000000000 ^ m * 1000000000 := Int.pow_succ ..
      have hp := pow_pos' m
      omega)) (by omega)
  -- the dividend
  have HDV : Hid (∀ out : List Int, out.length = n + 1 → Limbs (out.take n) → val out = s * val xs → Limbs out) := fun out hl2 ho hv => by
    have a1 := val_lt hcx.1
    rw [hn] at a1
    have e2 : (1000000000 : Int) ^ (n + 1) = 1000000000 ^ n * 1000000000 := Int.pow_succ ..
    have b1 : s * val xs ≤ 1000000000 * val xs := Int.mul_le_mul_of_nonneg_right (by omega) hX0
    exact limbs_of_val hl2 (by omega) (by simpa using ho) (by rw [hv]; exact Int.mul_nonneg (by omega) hX0) (by omega)
  have HST : Hid (∀ out : List Int, out.length = n + 1 → Limbs out → val out = s * val xs → LongS out N (n - m + 1) (n - m + 1) (out.drop (n - m + 1)) []) := fun out hl2 ho hv => by
    have := long_start hcx.1 hn (by omega) hmn hl2 ho hv s1 s4
    rwa [← hN] at this
  have HEND : Hid (∀ (dv rest Q : List Int), val dv = s * val xs → LongS dv N (n - m + 1) 0 rest Q → val Q = val xs / val ys ∧ val rest / s = val xs % val ys) := fun dv rest Q hdv h => by
    rw [hN] at h
    exact long_end h hdv s1 hYp
  have HS1 := hide (impl_scaled w B hB A n c xs s hn hx (by omega) hcx.1 (by omega))
  have HS2 := hide (fun (w1 : World) (hb : Below w.heap.size w w1) => impl_scaled w1 B (by have := hb.size; omega) A' m c' ys s hm (hy.below (hb.mono hB)) (by omega) hcy.1 (by omega))
  have HNN := hide hN
  have hmm : ((m : Int) == 1) = false := by simp; omega
  have hnlt : ¬ ((n : Int) < (m : Int)) := by omega
  have hq0 := Int.ediv_nonneg hX0 (Int.le_of_lt hYp)
  clear hs ht s3 s4 hN hx hy hcx hcy
  subst hA
  go_enter Tryz.func175, Tryz.ntmps175
  go_wp2_with fail
  refine HS1.out.mono ?_
  rintro e w1 ⟨g1, dv, rfl, hg1, hblk1, hdl, hdlo, hdvv, hb1⟩
  have HDO := hide (HDV.out dv hdl hdlo hdvv)
  have HLS := hide (HST.out dv hdl HDO.out hdvv)
  have HDE := hide (fun rest Q => HEND.out dv rest Q hdvv)
  have HB1 := hide hblk1
  have HBL1 := hide hb1
  have hs1 := hb1.size
  have hgl1 := hblk1.lt
  clear hblk1 hdlo hdvv hb1 HDV HST HEND HS1
  go_wp2_with fail
  refine (HS2.out w1 HBL1.out).mono ?_
  rintro e w2 ⟨g2, o2, rfl, hg2, hblk2, hl2, hlo2, hv2, hb2⟩
  have hT2 := HTR.out o2 hl2 hlo2 hv2
  have hgl2 := hblk2.lt
  have HZ := hide (impl_cutZeros w2 g2 (g2 + 1) (some ⟨g2, 0, none⟩) (m + 1) (m + 1) o2 (by have := hblk2.own (m + 1) (m + 1) (by omega); rwa [List.take_of_length_le (by omega)] at this) (Nat.le_refl _) (by unfold maxLen; omega))
  rw [hT2, hNl] at HZ
  have HB2 := hide (HB1.out.below hb2 hgl1)
  have HBL2 := hide (HBL1.out.trans (hb2.mono hs1))
  have hs2 := hb2.size
  clear hT2 hblk2 hl2 hlo2 hv2 hb2 HTR HS2
  go_wp2_with fail
  refine HZ.out.mono ?_
  rintro e w' ⟨v, rfl, od, ⟨A2, rfl⟩, rfl⟩
  obtain ⟨T, hT⟩ : ∃ T : Nat, T = n - m + 1 := ⟨_, rfl⟩
  have hTe : (n : Int) - (m : Int) + 1 = (T : Int) := by omega
  rw [← hT] at HLS HDE
  obtain ⟨i0, hi0, hz0, hz1, hz2⟩ := info_parts Tryz.infoInt
  obtain ⟨w3, hmk, hown0, hg0⟩ := run_make_full (P := Tryz.prog) w2 w2.heap.size 23 3 i0 _ 1 Tryz.underlying23 hi0 hz0 hz1 .i64 .i64 T (by rw [hz2]; omega) (by unfold maxLen; omega) (Nat.le_refl _)
  have hb3 : Below w2.heap.size w2 w3 := (Below.refl _ _).grown hg0 (Nat.le_refl _) (fun k h => by cases h)
  rw [made_zeros] at hown0
  have hbq : Blk w3 w2.heap.size 3 (List.replicate T 0 ++ []) := by unfold Blk; rw [List.append_nil, List.length_replicate]; exact hown0
  have hbd : Blk w3 g1 3 (dv.take T ++ dv.drop T) := by rw [List.take_append_drop]; exact HB2.out.below hb3 (by omega)
  have hod := od.below hb3 (by omega)
  have hbl3 := HBL2.out.trans (hb3.mono (by omega))
  have hgl3 := hbq.lt
  obtain ⟨g3, hg3⟩ : ∃ g3, g3 = w2.heap.size := ⟨_, rfl⟩
  rw [← hg3] at hbq hgl3
  have HG3 := hide hg3
  have hgg : g1 < g2 ∧ g2 < g3 ∧ w.heap.size ≤ g1 := by omega
  have hTm : T + m = n + 1 := by omega
  clear hi0 hz0 hz1 hz2 hg0 hown0 HZ HBL1 HBL2 HB1 HB2 hb3 od hs1 hs2 hgl1 hgl2 hg1 hg2 hT hg3
  go_wp2_with fail
  rw [← HG3.out]
  clear HG3
  clear hmk
  go_loopw [13] (fun i wr => ∃ (k : Nat) (rest Q : List Int), k ≤ T ∧ i = .int .i64 ((k : Int) - 1) ∧ Blk wr g1 3 (dv.take k ++ rest) ∧ Blk wr g3 3 (List.replicate k 0 ++ Q) ∧ Own wr g2 (g2 + 1) 3 (.slice A2 m m) m (iv (limbs N)) ∧ Hid (LongS dv N T k rest Q) ∧ Below w.heap.size w wr) (fun i _ => (intOf i + 1).toNat)
  case atStart => exact ⟨T, dv.drop T, [], Nat.le_refl _, (by show Value.int IntKind.i64 _ = Value.int IntKind.i64 _; rw [show (n : Int) - (m : Int) = (T : Int) - 1 by omega]), hbd, hbq, hod, HLS, hbl3⟩
  case round =>
    clear hbd hbq hod hbl3 HLS hgl3
    obtain ⟨k, rest, Q, hk, rfl, hbd, hbq, hod, L, hbl⟩ := hrel
    have hrl := L.out.rl
    have hql := L.out.ql
    have hgl := hbq.lt
    have hws := hbl.size
    by_cases hk0 : k = 0
    · subst hk0
      rw [List.replicate_zero, List.nil_append] at hbq
      rw [List.take_zero, List.nil_append] at hbd
      obtain ⟨hvq, hvr⟩ := HDE.out rest Q L.out
      have hro := L.out.ro
      obtain ⟨et, _⟩ := small_take hro (Int.lt_trans L.out.lt hND) (by omega)
      have HB := impl_ByLimb wr wr.heap.size (Nat.le_refl _) (some ⟨g1, 0, none⟩) m m (rest.take m) s (by rw [List.length_take]; omega) (hbd.own m m (by omega)).rd (by omega) (hro.take m) (by omega) (by omega)
      rw [et, hvr] at HB
      have HBL := hide HB
      have HTQ : Hid (trim Q = limbs (val xs / val ys).toNat) := trim_eq L.out.qo (by rw [hvq]; omega)
      have HQL : Hid (Q.length = T) := by show _ = _; omega
      have HBQ := hide hbq
      have hgl1 := hbd.lt
      have HBL0 := hide hbl
      generalize val rest % s = rr at *
      clear HB hvq hvr hro et hbd hbq hod L hrl hql hbl
      go_wp2_with fail
      refine HBL.out.mono ?_
      rintro e w5 ⟨v5, rfl, o5, hb5⟩
      have hs5 := hb5.size
      have hbq5 := HBQ.out.below hb5 hgl
      have HZ := hide (impl_cutZeros w5 g3 (g3 + 1) (some ⟨g3, 0, none⟩) T T Q (by have := hbq5.own T T (by have := HQL.out; omega) (by have := HQL.out; omega); rwa [List.take_of_length_le (by have := HQL.out; omega)] at this) (Nat.le_refl _) (by unfold maxLen; omega))
      have HBL5 := hide (HBL0.out.trans (hb5.mono (by omega)))
      have HO5 := hide o5
      clear o5 hb5 hbq5 HBQ HBL HBL0
      go_wp2_with fail
      refine HZ.out.mono ?_
      rintro e w' ⟨v6, rfl, o6, _, rfl⟩
      rw [HTQ.out] at o6
      have HO6 := hide o6
      clear o6 HZ
      go_wp2_with fail
      go_ret2
      exact ⟨_, _, rfl, Two.of HO6.out HO5.out (by omega) (by omega) (by omega) (Nat.le_refl _) (.inl (by omega)), HBL5.out⟩
    · obtain ⟨j, rfl⟩ : ∃ j, k = j + 1 := ⟨k - 1, by omega⟩
      rw [show (((j + 1 : Nat) : Int) - 1) = (j : Int) by omega]
      obtain ⟨wv, wo, wl⟩ := L.out.win HDO.out (show j < dv.length by omega) hND (by omega)
      have HNX := hide (fun out => L.out.next (out := out) HDO.out (show j < dv.length by omega) hND (by omega) (by omega) hN0)
      have hsplit : dv.take (j + 1) ++ rest = dv.take j ++ (dv[j] :: rest.take m) ++ rest.drop m := by
        rw [List.take_succ_eq_append_getElem (show j < dv.length by omega), List.append_assoc, List.append_assoc, List.cons_append, List.cons_append, List.nil_append, List.take_append_drop]
      have HWN := impl_Window wr g1 j m (m + 1) wr.heap.size m A2 (dv.take j) (dv[j] :: rest.take m) (rest.drop m) (limbs N) (by rw [← hsplit]; exact hbd) (by rw [List.length_take]; omega) (by rw [List.length_cons, List.length_take]; omega) hNl hm2 (by omega) wo (limbs_canon N) (by rw [val_limbs]; exact wl) hod.rd (Nat.le_refl _) (fun ad' e => by
        obtain ⟨ad2, e2, h1, h2⟩ := hod.addr (by omega)
        rw [e] at e2; injection e2 with e2; subst e2; omega)
      rw [val_limbs] at HWN
      have HW := hide HWN
      have HBQ := hide hbq
      have HOD := hide hod
      have HBL := hide hbl
      generalize hq : val (dv[j] :: rest.take m) / (N : Int) = q at *
      have HQQ := hide hq
      clear HWN wv wo wl hsplit hbd hbq hod hbl hq L
      go_wp2_with fail
      rw [show j + m + 1 - j = m + 1 by omega]
      refine HW.out.mono ?_
      rintro e w4 ⟨out, rfl, hblk4, hol, hoo, hov, ha4⟩
      have HS := hide (HNX.out out hol hoo hov)
      have hbq4 := HBQ.out.aside ha4 (by omega)
      have hj1 : j < (List.replicate (j + 1) 0 ++ Q).length := by simp; omega
      have hcell := hbq4.cell hj1
      have hfz := hbq4.frozen j
      have HB5 := hide (hbq4.set j q)
      rw [zset] at HB5
      have ha5 : Aside g3 (g3 + 1) w4 (w4.setCell ⟨g3, j, none⟩ (.int .i64 q)) := (Aside.refl _).setCell (a := ⟨g3, j, none⟩) (Nat.le_refl _) (Nat.lt_succ_self _) (.int .i64 q)
      have HD5 := hide (hblk4.aside ha5 (by omega))
      have HO5 := hide ((HOD.out.aside ha4 (by omega)).aside ha5 (by omega))
      have HBL5 := hide ((HBL.out.trans (ha4.below (by omega) (by omega))).trans (ha5.below (by omega) (by have := ha4.size; omega)))
      generalize (List.replicate (j + 1) 0 ++ Q)[j] = z at *
      have hjT : (j : Int) < (T : Int) := by omega
      clear hblk4 hol hoo hov ha4 ha5 hbq4 hj1 HW HNX HBQ HOD HBL
      go_wp2_with fail
      go_roundw
      case rel => exact ⟨j, out ++ rest.drop m, q :: Q, by omega, rfl, by rw [← List.append_assoc]; exact HD5.out, HB5.out, HO5.out, HS.out, HBL5.out⟩
      case measure => simp [intOf]

theorem impl_Div (w : World) (B : Nat) (hB : B ≤ w.heap.size) (A A' : Option Addr) (n m c c' : Nat) (xs ys : List Int) (hn : xs.length = n) (hm : ys.length = m) (hx : Rd w B A (iv xs)) (hy : Rd w B A' (iv ys)) (hl : n ≤ 10000) (hl' : m ≤ 10000) (hcx : Canon xs) (hcy : Canon ys) (h0 : 0 < m) :
    Calls Tryz.prog 175 #[.slice A n c, .slice A' m c'] w fun e w' => ∃ v1 v2, e = .returned (.tuple #[v1, v2]) ∧ Two w w' 3 v1 (limbs (val xs / val ys).toNat) v2 (limbs (val xs % val ys).toNat) ∧ Below w.heap.size w w' := by
  by_cases hnm : n < m
  · exact impl_Div_less w B hB A A' n m c c' xs ys hn hm hx hl hl' hcx hcy hnm
  · by_cases hm1 : m = 1
    · subst hm1
      obtain ⟨d, rfl⟩ : ∃ d, ys = [d] := by
        match ys, hm with
        | [d], _ => exact ⟨d, rfl⟩
        | [], h => simp at h
        | _ :: _ :: _, h => simp at h
      have hd := top_pos hcy hm (by omega)
      have hdv : val [d] = d := by simp [val]
      rw [hdv]
      exact impl_Div_one w B hB A A' n c c' xs d hn hx hy hl hcx hd.1 hd.2 (by omega)
    · exact impl_Div_long w B hB A A' n m c c' xs ys hn hm hx hy hl hcx hcy (by omega) (by omega)
set_option maxHeartbeats 1600000 in
theorem impl_NatDiv (w : World) (B : Nat) (hB : B ≤ w.heap.size) (A0 : Option Addr) (n0 c0 : Nat) (xs0 : List Int) (R0 : RdI w B A0 n0 xs0) (A1 : Option Addr) (n1 c1 : Nat) (xs1 : List Int) (R1 : RdI w B A1 n1 xs1) :
    Calls Tryz.prog 148 #[.slice A0 n0 c0, .slice A1 n1 c1] w fun e w' => ∃ v1 v2, e = .returned (.tuple #[v1, v2]) ∧ Two w w' 3 v1 (quoL xs0 xs1) v2 (remL xs0 xs1) ∧ Below w.heap.size w w' := by
  have H0 := hide (impl_NatOk w B hB A0 n0 c0 xs0 R0)
  have H1 := hide (impl_NatOk w B hB A1 n1 c1 xs1 R1)
  have hn1 := R1.1
  by_cases h0 : natB xs0 = true
  · by_cases h1 : natB xs1 = true
    · by_cases hz : n1 = 0
      · have HE : Hid (quoL xs0 xs1 = [] ∧ remL xs0 xs1 = []) := by
          have : xs1 = [] := List.eq_nil_of_length_eq_zero (by omega)
          exact ⟨quoL_nil (.inr (.inr this)), remL_nil (.inr (.inr this))⟩
        clear R0 R1
        subst hz
        go_enter Tryz.func148, Tryz.ntmps148
        go_wp2_with fail
        refine H0.out.mono ?_
        rintro e w' ⟨rfl, rfl⟩
        go_wp2_with fail
        refine H1.out.mono ?_
        rintro e w' ⟨rfl, rfl⟩
        go_wp2_with fail
        go_ret2
        exact ⟨_, _, rfl, by rw [HE.out.1, HE.out.2]; exact two_nil _ _, Below.refl _ _⟩
      · obtain ⟨k0, l0⟩ := (natB_iff xs0).1 h0
        obtain ⟨k1, l1⟩ := (natB_iff xs1).1 h1
        have hne : xs1 ≠ [] := fun e => by subst e; simp at hn1; omega
        have HD := impl_Div w B hB A0 A1 n0 n1 c0 c1 xs0 xs1 R0.1 R1.1 R0.2.1 R1.2.1 (by have := R0.1; omega) (by omega) k0 k1 (by omega)
        rw [quoL_ok h0 h1, remL_ok h0 h1 hne] at HD
        have HDD := hide HD
        have hz' : ((n1 : Int) == 0) = false := by simp; omega
        clear R0 R1 k0 k1 HD hne hz
        go_enter Tryz.func148, Tryz.ntmps148
        go_wp2_with fail
        refine H0.out.mono ?_
        rintro e w' ⟨rfl, rfl⟩
        go_wp2_with fail
        refine H1.out.mono ?_
        rintro e w' ⟨rfl, rfl⟩
        go_wp2_with fail
        refine HDD.out.mono ?_
        rintro e w2 ⟨v1, v2, rfl, hT, hb⟩
        have HT := hide hT
        clear hT
        go_wp2_with fail
        go_ret2
        exact ⟨_, _, rfl, HT.out, hb⟩
    · have h1' : natB xs1 = false := by simpa using h1
      have HE : Hid (quoL xs0 xs1 = [] ∧ remL xs0 xs1 = []) := ⟨quoL_nil (.inr (.inl h1')), remL_nil (.inr (.inl h1'))⟩
      clear R0 R1 h1
      go_enter Tryz.func148, Tryz.ntmps148
      go_wp2_with fail
      refine H0.out.mono ?_
      rintro e w' ⟨rfl, rfl⟩
      go_wp2_with fail
      refine H1.out.mono ?_
      rintro e w' ⟨rfl, rfl⟩
      go_wp2_with fail
      go_ret2
      exact ⟨_, _, rfl, by rw [HE.out.1, HE.out.2]; exact two_nil _ _, Below.refl _ _⟩
  · have h0' : natB xs0 = false := by simpa using h0
    have HE : Hid (quoL xs0 xs1 = [] ∧ remL xs0 xs1 = []) := ⟨quoL_nil (.inl h0'), remL_nil (.inl h0')⟩
    clear R0 R1 h0
    go_enter Tryz.func148, Tryz.ntmps148
    go_wp2_with fail
    refine H0.out.mono ?_
    rintro e w' ⟨rfl, rfl⟩
    go_wp2_with fail
    go_ret2
    exact ⟨_, _, rfl, by rw [HE.out.1, HE.out.2]; exact two_nil _ _, Below.refl _ _⟩
end Go.Proofs.YtnbaookdeijhhaaGreatDoor
