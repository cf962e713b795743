/-
  The law FnNats: its walk.
-/
import Derived.Test.YtalcknddegfkaaaDoorNatD
import Derived.Test.YtalcknddegfkaaaDoorFmtC
import Derived.Test.YtalcknddegfkaaaDoorNatI11
import Derived.Test.YtalcknddegfkaaaDoorNatI12
namespace Go.Proofs.YtalcknddegfkaaaDoor
open Go.RowKit
set_option linter.unusedVariables false

theorem cmpL_self {a : List Int} (h : natB a = true) : cmpL a a = 0 := by rw [cmpL, h]; simp
theorem cmpL_less {a b : List Int} (h : natB a = true) (h' : natB b = true) (hlt : natV a < natV b) : cmpL a b = -1 := by rw [cmpL, h, h']; simp [hlt]
theorem few_nat {xs : List Int} (hc : Canon xs) (hl : xs.length ≤ 3) : natB xs = true := (natB_iff xs).2 ⟨hc, by omega⟩
theorem five_nat {ys : List Int} (hc : Canon ys) (hl : ys.length ≤ 3) : natB (ys ++ [5]) = true :=
  (natB_iff _).2 ⟨⟨hc.1.append (Limbs.mk (by omega) Limbs.nil), fun d hd => by simp at hd; omega⟩, by rw [List.length_append, List.length_singleton]; omega⟩
theorem natV_pos {bs : List Int} (h : natB bs = true) (h0 : bs ≠ []) : 0 < natV bs := by
  have := val_pos ((natB_iff bs).1 h).1 h0
  have := natV_val h
  omega
structure NatsM (xs bs : List Int) : Prop where
  q : natB (quoL xs bs) = true
  r : natB (remL xs bs) = true
  lt : cmpL (remL xs bs) bs = -1
  sum : addL (mulL (quoL xs bs) bs) (remL xs bs) = xs
  m : natB (mulL (quoL xs bs) bs) = true
  g : natB (gcdL xs bs) = true
  gc : gcdL bs xs = gcdL xs bs
theorem natsM {xs bs : List Int} (hx : natB xs = true) (hb : natB bs = true) (h0 : bs ≠ []) : NatsM xs bs := by
  have hM := natV_pos hb h0
  have hN6 := natV_lt60 hx
  have hM6 := natV_lt60 hb
  have hne : bs.isEmpty = false := by simpa using h0
  have hq : quoL xs bs = limbs (natV xs / natV bs) := by rw [quoL, hx, hb]; rfl
  have hr : remL xs bs = limbs (natV xs % natV bs) := by rw [remL, hx, hb, hne]; rfl
  have hqN : natV xs / natV bs < 1000000000 ^ 60 := Nat.lt_of_le_of_lt (Nat.div_le_self _ _) hN6
  have hrN : natV xs % natV bs < 1000000000 ^ 60 := Nat.lt_of_le_of_lt (Nat.mod_le _ _) hN6
  have hmN : natV xs / natV bs * natV bs < 1000000000 ^ 60 := Nat.lt_of_le_of_lt (Nat.div_mul_le_self _ _) hN6
  have hqb : natB (quoL xs bs) = true := by rw [hq]; exact natB_limbs hqN
  have hrb : natB (remL xs bs) = true := by rw [hr]; exact natB_limbs hrN
  have hqv : natV (quoL xs bs) = natV xs / natV bs := by rw [hq, natV_limbs]
  have hrv : natV (remL xs bs) = natV xs % natV bs := by rw [hr, natV_limbs]
  have hm : mulL (quoL xs bs) bs = limbs (natV xs / natV bs * natV bs) := by rw [mulL, hqb, hb, hqv]; exact capL_small hmN
  have hmb : natB (mulL (quoL xs bs) bs) = true := by rw [hm]; exact natB_limbs hmN
  have hmv : natV (mulL (quoL xs bs) bs) = natV xs / natV bs * natV bs := by rw [hm, natV_limbs]
  have hg : gcdL xs bs = limbs (Nat.gcd (natV xs) (natV bs)) := by rw [gcdL, hx, hb]; rfl
  have hgN : Nat.gcd (natV xs) (natV bs) < 1000000000 ^ 60 := Nat.lt_of_le_of_lt (Nat.gcd_le_right _ hM) hM6
  refine ⟨hqb, hrb, ?_, ?_, hmb, by rw [hg]; exact natB_limbs hgN, ?_⟩
  · exact cmpL_less hrb hb (by rw [hrv]; exact Nat.mod_lt _ hM)
  · rw [addL, hmb, hrb, hmv, hrv]
    have e : natV xs / natV bs * natV bs + natV xs % natV bs = natV xs := Nat.div_add_mod' _ _
    rw [e]
    show capL (natV xs) = xs
    rw [capL_small hN6, limbs_natV hx]
  · rw [gcdL, gcdL, hx, hb, Nat.gcd_comm]
theorem natB_lim {a : List Int} (h : natB a = true) : Limbs a ∧ a.length ≤ 60 := ⟨((natB_iff a).1 h).1.1, ((natB_iff a).1 h).2⟩
theorem Own.rdI {w : World} {lo hi c : Nat} {E : TypeId} {A : Option Addr} {xs : List Int} (o : Own w lo hi E (.slice A xs.length c) xs.length (iv xs)) (h : natB xs = true) : RdI w w.heap.size A xs.length xs :=
  ⟨rfl, o.rd, by have := (natB_lim h).2; omega, fun d hd => by have := (natB_lim h).1 d hd; exact WalkArith.wf_i64 ⟨by omega, by omega⟩⟩

/-- a list of the call's own, somewhere -/
def OwnB (w : World) (v : Value) (xs : List Int) : Prop := ∃ lo hi, Own w lo hi 3 v xs.length (iv xs) ∧ hi ≤ w.heap.size
theorem OwnB.of {w w' : World} {v : Value} {xs : List Int} (o : Own w' w.heap.size w'.heap.size 3 v xs.length (iv xs)) : OwnB w' v xs := ⟨_, _, o, Nat.le_refl _⟩
theorem OwnB.below {w w' : World} {v : Value} {xs : List Int} (o : OwnB w v xs) (hb : Below w.heap.size w w') : OwnB w' v xs := by
  obtain ⟨lo, hi, o, h⟩ := o
  exact ⟨lo, hi, o.below hb h, Nat.le_trans h hb.size⟩
theorem OwnB.form {w : World} {v : Value} {xs : List Int} (o : OwnB w v xs) : ∃ A c, v = .slice A xs.length c := by
  obtain ⟨lo, hi, o, h⟩ := o
  exact o.form
theorem OwnB.rdI {w : World} {A : Option Addr} {c : Nat} {xs : List Int} (o : OwnB w (.slice A xs.length c) xs) (h : natB xs = true) : RdI w w.heap.size A xs.length xs := by
  obtain ⟨lo, hi, o, _⟩ := o
  exact o.rdI h
theorem Two.both {w w' : World} {v1 v2 : Value} {xs ys : List Int} (t : Two w w' 3 v1 xs v2 ys) : OwnB w' v1 xs ∧ OwnB w' v2 ys := by
  obtain ⟨l1, h1, l2, h2, a, b, _, _, e3, e4, _⟩ := t
  exact ⟨⟨l1, h1, a, e3⟩, ⟨l2, h2, b, e4⟩⟩
theorem MakeNat0 (n c B : Nat) (A : Option Addr) (w : World) (hn : n ≤ 1099511627776) (hb : Bytes w B A n) (hB : B ≤ w.heap.size) :
    Calls Tryd.prog 5 #[.slice A n c, .int .i64 0] w fun e w' => ∃ v xs, e = .returned v ∧ w'.ownsRow w.heap.size 3 1 v xs.length (iv xs) ∧ Canon xs ∧ xs.length ≤ 3 ∧ Below w.heap.size w w' :=
  MakeNat_any n c B A 0 (by omega) w hn hb hB
theorem MakeNat1 (n c B : Nat) (A : Option Addr) (w : World) (hn : n ≤ 1099511627776) (hb : Bytes w B A n) (hB : B ≤ w.heap.size) :
    Calls Tryd.prog 5 #[.slice A n c, .int .i64 1] w fun e w' => ∃ v xs, e = .returned v ∧ w'.ownsRow w.heap.size 3 1 v xs.length (iv xs) ∧ Canon xs ∧ xs.length ≤ 3 ∧ Below w.heap.size w w' :=
  MakeNat_any n c B A 1 (by omega) w hn hb hB
set_option maxRecDepth 100000 in
set_option maxHeartbeats 6400000 in
theorem FnNats_walk (w : World) (a0 : Option Addr) (len0 cap0 : Nat) (z0 : List Int) (h0 : IsRow .u8 w a0 len0 cap0 z0) (hT : PowTab w) :
    Calls Tryd.prog 3 #[.slice a0 len0 cap0] w fun e w' => e = .returned (.bool true) ∧ Below w.heap.size w w' := by
  obtain ⟨hby, hlm⟩ := h0.bytes
  clear h0
  unfold maxLen at hlm
  by_cases h : 1048576 < len0
  · clear hT hby
    go_enter Tryd.func3, Tryd.ntmps3
    go_wp2_with fail
    go_ret
    exact ⟨rfl, Below.refl _ _⟩
  have hl : len0 ≤ 1048576 := by omega
  have hPT := hide hT
  clear hT h
  go_enter Tryd.func3, Tryd.ntmps3
  go_wp2_with fail
  refine (MakeNat0 len0 cap0 _ a0 w (by omega) hby (Nat.le_refl _)).mono ?_
  rintro e w1 ⟨va, xs, rfl, qa, hcx, hlx, t1⟩
  have hX := hide (few_nat hcx hlx)
  have hby1 := hby.below t1
  have oa1 := Own.of qa
  clear qa hby hcx hlx
  go_wp2_with fail
  refine (MakeNat1 len0 cap0 _ a0 w1 (by omega) hby1 t1.size).mono ?_
  rintro e w2 ⟨vy, ys, rfl, qy, hcy, hly, hb2⟩
  have hB := hide (five_nat hcy hly)
  have HO2 := hide (oa1.below hb2 (Nat.le_refl _))
  have HT2 := hide (t1.trans (hb2.mono t1.size))
  have hs1 := t1.size
  have hs2 := hb2.size
  have hN := hide (natsM hX.out hB.out (by simp))
  have hZ : Hid ((fmtB xs).size ≤ 1048576) := Nat.le_trans (fmtB_size hX.out) (by omega)
  have hPA := hide (parse_fmt hX.out)
  clear hby1 oa1 t1 hcy hb2
  go_wp2_with (at_builtin; refine wpList_append1 Tryd.sliceInt rfl _ _ rfl w2 w1.heap.size _ _ _ qy rfl #[.int .i64 5] 1 rfl rfl (by simp [Value.oneCell']) (by omega) (by omega) hs2 ?_; intro vb w3 qb hb3)
  have hs3 := hb3.size
  have oa_3 : OwnB w3 va xs := ⟨_, _, HO2.out.below hb3 (Nat.le_refl _), by omega⟩
  have ob_3 : OwnB w3 vb (ys ++ [5]) := ⟨w1.heap.size, w3.heap.size, Own.of_row (by simpa [iv] using qb) (Nat.le_refl _), Nat.le_refl _⟩
  have t3 := HT2.out.trans (hb3.mono hs1)
  clear qb hb3 HO2 HT2 hs1 hs2 hs3 hly hl hlm
  generalize ys ++ [5] = bs at *
  obtain ⟨Aoa, coa, rfl⟩ := oa_3.form
  obtain ⟨Aob, cob, rfl⟩ := ob_3.form
  go_wp2_with fail
  refine (impl_NatDiv w3 w3.heap.size (Nat.le_refl _) Aoa (xs).length coa (xs) (oa_3.rdI hX.out) Aob (bs).length cob (bs) (ob_3.rdI hB.out)).mono ?_
  rintro e w4 ⟨vq, vr, rfl, hTwo, hb4⟩
  obtain ⟨oq_4, orr_4⟩ := Two.both hTwo
  clear hTwo
  obtain ⟨Aoq, coq, rfl⟩ := oq_4.form
  obtain ⟨Aorr, corr, rfl⟩ := orr_4.form
  have oa_4 := oa_3.below hb4
  clear oa_3
  have ob_4 := ob_3.below hb4
  clear ob_3
  have t4 := t3.trans (hb4.mono t3.size)
  clear t3
  go_wp2_with fail
  refine (impl_FormatNat w4 w4.heap.size (Nat.le_refl _) Aoa (xs).length coa (xs) (oa_4.rdI hX.out) (hPT.out.below t4 hPT.out.lt)).mono ?_
  rintro e w5 ⟨rfl, hb5⟩
  have oa_5 := oa_4.below hb5
  clear oa_4
  have ob_5 := ob_4.below hb5
  clear ob_4
  have oq_5 := oq_4.below hb5
  clear oq_4
  have orr_5 := orr_4.below hb5
  clear orr_4
  have t5 := t4.trans (hb5.mono t4.size)
  clear t4
  go_wp2_with fail
  refine (impl_ParseNat w5 w5.heap.size (Nat.le_refl _) (fmtB xs) hZ.out).mono ?_
  rintro e w6 ⟨vox, rfl, qox, hb6⟩
  rw [hPA.out.2] at qox
  have ox_6 := OwnB.of qox
  clear qox
  obtain ⟨Aox, cox, rfl⟩ := ox_6.form
  rw [hPA.out.1]
  have oa_6 := oa_5.below hb6
  clear oa_5
  have ob_6 := ob_5.below hb6
  clear ob_5
  have oq_6 := oq_5.below hb6
  clear oq_5
  have orr_6 := orr_5.below hb6
  clear orr_5
  have t6 := t5.trans (hb6.mono t5.size)
  clear t5
  go_wp2_with fail
  refine (impl_NatCmp w6 w6.heap.size (Nat.le_refl _) Aox (xs).length cox (xs) (ox_6.rdI hX.out) Aoa (xs).length coa (xs) (oa_6.rdI hX.out)).mono ?_
  rintro e w7 ⟨he7, hb7⟩
  rw [cmpL_self hX.out] at he7
  subst he7
  have oa_7 := oa_6.below hb7
  clear oa_6
  have ob_7 := ob_6.below hb7
  clear ob_6
  have oq_7 := oq_6.below hb7
  clear oq_6
  have orr_7 := orr_6.below hb7
  clear orr_6
  have ox_7 := ox_6.below hb7
  clear ox_6
  have t7 := t6.trans (hb7.mono t6.size)
  clear t6
  go_wp2_with fail
  refine (impl_NatMul w7 w7.heap.size (Nat.le_refl _) Aoq (quoL xs bs).length coq (quoL xs bs) (oq_7.rdI hN.out.q) Aob (bs).length cob (bs) (ob_7.rdI hB.out)).mono ?_
  rintro e w8 ⟨vom, rfl, qom, hb8⟩
  have om_8 := OwnB.of qom
  clear qom
  obtain ⟨Aom, com, rfl⟩ := om_8.form
  have oa_8 := oa_7.below hb8
  clear oa_7
  have ob_8 := ob_7.below hb8
  clear ob_7
  have oq_8 := oq_7.below hb8
  clear oq_7
  have orr_8 := orr_7.below hb8
  clear orr_7
  have ox_8 := ox_7.below hb8
  clear ox_7
  have t8 := t7.trans (hb8.mono t7.size)
  clear t7
  go_wp2_with fail
  refine (impl_NatAdd w8 w8.heap.size (Nat.le_refl _) Aom (mulL (quoL xs bs) bs).length com (mulL (quoL xs bs) bs) (om_8.rdI hN.out.m) Aorr (remL xs bs).length corr (remL xs bs) (orr_8.rdI hN.out.r)).mono ?_
  rintro e w9 ⟨vos, rfl, qos, hb9⟩
  rw [hN.out.sum] at qos
  have os_9 := OwnB.of qos
  clear qos
  obtain ⟨Aos, cos, rfl⟩ := os_9.form
  have oa_9 := oa_8.below hb9
  clear oa_8
  have ob_9 := ob_8.below hb9
  clear ob_8
  have oq_9 := oq_8.below hb9
  clear oq_8
  have orr_9 := orr_8.below hb9
  clear orr_8
  have ox_9 := ox_8.below hb9
  clear ox_8
  have om_9 := om_8.below hb9
  clear om_8
  have t9 := t8.trans (hb9.mono t8.size)
  clear t8
  go_wp2_with fail
  refine (impl_NatCmp w9 w9.heap.size (Nat.le_refl _) Aos (xs).length cos (xs) (os_9.rdI hX.out) Aoa (xs).length coa (xs) (oa_9.rdI hX.out)).mono ?_
  rintro e w10 ⟨he10, hb10⟩
  rw [cmpL_self hX.out] at he10
  subst he10
  have oa_10 := oa_9.below hb10
  clear oa_9
  have ob_10 := ob_9.below hb10
  clear ob_9
  have oq_10 := oq_9.below hb10
  clear oq_9
  have orr_10 := orr_9.below hb10
  clear orr_9
  have ox_10 := ox_9.below hb10
  clear ox_9
  have om_10 := om_9.below hb10
  clear om_9
  have os_10 := os_9.below hb10
  clear os_9
  have t10 := t9.trans (hb10.mono t9.size)
  clear t9
  go_wp2_with fail
  refine (impl_NatCmp w10 w10.heap.size (Nat.le_refl _) Aorr (remL xs bs).length corr (remL xs bs) (orr_10.rdI hN.out.r) Aob (bs).length cob (bs) (ob_10.rdI hB.out)).mono ?_
  rintro e w11 ⟨he11, hb11⟩
  rw [hN.out.lt] at he11
  subst he11
  have oa_11 := oa_10.below hb11
  clear oa_10
  have ob_11 := ob_10.below hb11
  clear ob_10
  have oq_11 := oq_10.below hb11
  clear oq_10
  have orr_11 := orr_10.below hb11
  clear orr_10
  have ox_11 := ox_10.below hb11
  clear ox_10
  have om_11 := om_10.below hb11
  clear om_10
  have os_11 := os_10.below hb11
  clear os_10
  have t11 := t10.trans (hb11.mono t10.size)
  clear t10
  go_wp2_with fail
  refine (impl_NatGcd w11 w11.heap.size (Nat.le_refl _) Aoa (xs).length coa (xs) (oa_11.rdI hX.out) Aob (bs).length cob (bs) (ob_11.rdI hB.out)).mono ?_
  rintro e w12 ⟨vog, rfl, qog, hb12⟩
  have og_12 := OwnB.of qog
  clear qog
  obtain ⟨Aog, cog, rfl⟩ := og_12.form
  have oa_12 := oa_11.below hb12
  clear oa_11
  have ob_12 := ob_11.below hb12
  clear ob_11
  have oq_12 := oq_11.below hb12
  clear oq_11
  have orr_12 := orr_11.below hb12
  clear orr_11
  have ox_12 := ox_11.below hb12
  clear ox_11
  have om_12 := om_11.below hb12
  clear om_11
  have os_12 := os_11.below hb12
  clear os_11
  have t12 := t11.trans (hb12.mono t11.size)
  clear t11
  go_wp2_with fail
  refine (impl_NatGcd w12 w12.heap.size (Nat.le_refl _) Aob (bs).length cob (bs) (ob_12.rdI hB.out) Aoa (xs).length coa (xs) (oa_12.rdI hX.out)).mono ?_
  rintro e w13 ⟨voh, rfl, qoh, hb13⟩
  rw [hN.out.gc] at qoh
  have oh_13 := OwnB.of qoh
  clear qoh
  obtain ⟨Aoh, coh, rfl⟩ := oh_13.form
  have oa_13 := oa_12.below hb13
  clear oa_12
  have ob_13 := ob_12.below hb13
  clear ob_12
  have oq_13 := oq_12.below hb13
  clear oq_12
  have orr_13 := orr_12.below hb13
  clear orr_12
  have ox_13 := ox_12.below hb13
  clear ox_12
  have om_13 := om_12.below hb13
  clear om_12
  have os_13 := os_12.below hb13
  clear os_12
  have og_13 := og_12.below hb13
  clear og_12
  have t13 := t12.trans (hb13.mono t12.size)
  clear t12
  go_wp2_with fail
  refine (impl_NatCmp w13 w13.heap.size (Nat.le_refl _) Aog (gcdL xs bs).length cog (gcdL xs bs) (og_13.rdI hN.out.g) Aoh (gcdL xs bs).length coh (gcdL xs bs) (oh_13.rdI hN.out.g)).mono ?_
  rintro e w14 ⟨he14, hb14⟩
  rw [cmpL_self hN.out.g] at he14
  subst he14
  have oa_14 := oa_13.below hb14
  clear oa_13
  have ob_14 := ob_13.below hb14
  clear ob_13
  have oq_14 := oq_13.below hb14
  clear oq_13
  have orr_14 := orr_13.below hb14
  clear orr_13
  have ox_14 := ox_13.below hb14
  clear ox_13
  have om_14 := om_13.below hb14
  clear om_13
  have os_14 := os_13.below hb14
  clear os_13
  have og_14 := og_13.below hb14
  clear og_13
  have oh_14 := oh_13.below hb14
  clear oh_13
  have t14 := t13.trans (hb14.mono t13.size)
  clear t13
  clear oa_14
  clear ob_14
  clear oq_14
  clear orr_14
  clear ox_14
  clear om_14
  clear os_14
  clear og_14
  clear oh_14
  go_wp2_with fail
  go_ret
  exact ⟨rfl, t14⟩
end Go.Proofs.YtalcknddegfkaaaDoor
