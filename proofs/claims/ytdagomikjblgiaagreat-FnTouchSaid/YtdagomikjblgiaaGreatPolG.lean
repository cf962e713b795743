/-
  Where a whole point lies: ContainsPoint at PointOf.
-/
import Derived.Test.YtdagomikjblgiaaGreatPC
import Derived.Test.YtdagomikjblgiaaGreatSP
namespace Go.Proofs.YtdagomikjblgiaaGreat
open Go.RowKit
set_option linter.unusedVariables false
theorem cap_one : capZ 1 = (false, [1]) := by
  rw [capZ_in (inR_small (by decide))]
  have : limbs 1 = [1] := by simp [limbs]
  show (decide ((1 : Int) < 0), limbs 1) = _
  rw [this]; rfl
theorem inR_vec {x : Int} (h : -1000 ≤ x) (h' : x ≤ 1000) : inR x := inR_small (by omega)
theorem mulZ_one {x : Int} (h : -1000 ≤ x) (h' : x ≤ 1000) : mulZ (capZ x).1 (capZ x).2 false [1] = capZ x := by
  have := mulZ_cap (inR_vec h h') (inR_small (z := 1) (by decide))
  rw [cap_one, Int.mul_one] at this
  exact this
theorem mulL_one : mulL [1] [1] = [1] := by
  have := mulZ_cap (inR_small (z := 1) (by decide)) (inR_small (z := 1) (by decide))
  have h1 : natB [1] = true := by decide
  have h2 : natV [1] = 1 := by decide
  rw [mulL, h1, h2, capL_small (Nat.one_lt_pow (by decide) (by decide))]
  simp [limbs]
theorem ratQ_int {x : Int} (h : -1000 ≤ x) (h' : x ≤ 1000) : ratQ (intQ x) = true := by
  have hr := inR_vec h h'
  have hb := bigB_cap hr
  have e := capZ_in hr
  have hN : natB (capZ x).2 = true := by rw [e]; exact natB_limbs hr
  have hV : natV (capZ x).2 = x.natAbs := by rw [e]; exact natV_limbs _
  have hl : (capZ x).2.length ≤ 24 := by rw [e]; exact limbs_len.2 (Nat.lt_of_le_of_lt (show x.natAbs ≤ 1000 by omega) (by decide))
  have h1 : natB [1] = true := by decide
  have h2 : natV [1] = 1 := by decide
  unfold ratQ intQ ratB
  rw [hb]
  have hg : gcdL (capZ x).2 [1] = [1] := by rw [gcdL, hN, h1, hV, h2, Nat.gcd_one_right]; simp [limbs]
  simp only [hg]
  unfold shortB
  simp [hl]
/-- the side of an edge on which a whole point lies -/
def sgE (l : List V2) (v : V2) (i : Nat) : Int := if tn (atV l i) (atV l ((i + 1) % l.length)) v < 0 then -1 else if 0 < tn (atV l i) (atV l ((i + 1) % l.length)) v then 1 else 0
def inN (l : List V2) (v : V2) : Nat → Int
  | 0 => 1
  | k + 1 => min (inN l v k) (sgE l v k)
noncomputable def contB (l : List V2) (v : V2) : Int := if polyB l = true then inN l v l.length else -1
theorem sgE_range (l : List V2) (v : V2) (i : Nat) : -1 ≤ sgE l v i ∧ sgE l v i ≤ 1 := by
  unfold sgE; split
  · omega
  · split <;> omega
theorem inN_range (l : List V2) (v : V2) : ∀ k, -1 ≤ inN l v k ∧ inN l v k ≤ 1 := by
  intro k
  induction k with
  | zero => simp [inN]
  | succ k ih =>
    have := sgE_range l v k
    show -1 ≤ min _ _ ∧ min _ _ ≤ 1
    omega
theorem inN_le (l : List V2) (v : V2) : ∀ k i, i < k → inN l v k ≤ sgE l v i := by
  intro k
  induction k with
  | zero => intro i h; omega
  | succ k ih =>
    intro i h
    show min _ _ ≤ _
    by_cases e : i = k
    · subst e; omega
    · have := ih i (by omega); omega
theorem inN_nn (l : List V2) (v : V2) : ∀ k, (∀ i, i < k → 0 ≤ tn (atV l i) (atV l ((i + 1) % l.length)) v) → 0 ≤ inN l v k := by
  intro k
  induction k with
  | zero => intro _; simp [inN]
  | succ k ih =>
    intro h
    have h1 := ih fun i hi => h i (by omega)
    have h2 : 0 ≤ sgE l v k := by
      have := h k (by omega)
      unfold sgE
      rw [if_neg (by omega)]
      split <;> omega
    show 0 ≤ min _ _
    omega
theorem inN_neg {l : List V2} {v : V2} {k n : Nat} (h : tn (atV l k) (atV l ((k + 1) % l.length)) v < 0) (hk : k < n) : inN l v n = -1 := by
  have h1 := inN_le l v n k hk
  have h2 := (inN_range l v n).1
  have h3 : sgE l v k = -1 := by unfold sgE; rw [if_pos h]
  omega
theorem contB_nn {l : List V2} (hp : polyP l) (v : V2) : 0 ≤ contB l v ↔ ∀ i, i < l.length → 0 ≤ tn (atV l i) (atV l ((i + 1) % l.length)) v := by
  unfold contB
  rw [if_pos (polyB_iff.2 hp)]
  constructor
  · intro h i hi
    rcases Int.lt_or_le (tn (atV l i) (atV l ((i + 1) % l.length)) v) 0 with k | k
    · rw [inN_neg k hi] at h; omega
    · exact k
  · exact inN_nn l v l.length
theorem cmp_sgE {l : List V2} {k p : Nat} (hk : k < l.length) (hp : p < l.length) (e : (k + 1) % l.length = p) (x y : Int) :
    cmpV ((l[p].1 - l[k].1) * (y - l[k].2 * 1)) ((l[p].2 - l[k].2) * (x - l[k].1 * 1)) = sgE l (x, y) k := by
  subst e
  have ht : tn (atV l k) (atV l ((k + 1) % l.length)) (x, y) = (l[(k + 1) % l.length].1 - l[k].1) * (y - l[k].2 * 1) - (l[(k + 1) % l.length].2 - l[k].2) * (x - l[k].1 * 1) := by
    rw [atV_eq hk, atV_eq hp]; unfold tn; rw [Int.mul_one, Int.mul_one]
  unfold sgE cmpV
  rw [ht]
  generalize (l[(k + 1) % l.length].1 - l[k].1) * (y - l[k].2 * 1) = a
  generalize (l[(k + 1) % l.length].2 - l[k].2) * (x - l[k].1 * 1) = b
  repeat' split
  all_goals omega
/-- at a whole point in range -/
def atPt (w : World) (B : Nat) (p0 p1 p2 p3 p4 p5 : Value) (x y : Int) : Prop := PIn w B p0 p1 p2 p3 p4 p5 (vecP x y) ∧ vecB x y = true
set_option maxRecDepth 100000 in
set_option maxHeartbeats 3200000 in
theorem impl_ContainsAt (w : World) (B : Nat) (hB : B ≤ w.heap.size) (A : Option Addr) (n c : Nat) (l : List V2) (R : RdV w B A n l) {p0 p1 p2 p3 p4 p5 : Value} {x y : Int} (hP : atPt w B p0 p1 p2 p3 p4 p5 x y) :
    Calls Tryz.prog 7 #[.slice A n c, .agg #[p0, p1, p2, p3, p4, p5]] w fun e w' => e = .returned (.int .i64 (contB l (x, y))) ∧ Below w.heap.size w w' := by
  obtain ⟨hP, hxy⟩ := hP
  have hv := vecB_bounds hxy
  obtain ⟨W0, hW0⟩ : ∃ W0, W0 = w.alloc (.cells #[p0, p1, p2, p3, p4, p5] 37) := ⟨_, rfl⟩
  have hT0 : Below w.heap.size w W0 := by rw [hW0]; exact below_new _ _
  have kp : Box W0 w.heap.size 37 #[p0, p1, p2, p3, p4, p5] := by rw [hW0]; exact Box.last _ _ _ rfl
  have hB0 : B ≤ W0.heap.size := Nat.le_trans hB hT0.size
  have R0 := R.below (hT0.mono hB)
  have P0 := hP.below (hT0.mono hB)
  have HP := hide (impl_IsPolygon W0 B hB0 A n c l R0)
  clear R hP
  cases ep : polyB l with
  | false =>
    have HN : Hid (contB l (x, y) = -1) := by show _ = _; unfold contB; rw [ep]; rfl
    rw [ep] at HP
    clear R0 P0 ep
    go_enter Tryz.func7, Tryz.ntmps7
    go_upto_region 1 with fail
    rw [← hW0]
    clear hW0
    go_wp2_with fail
    refine HP.out.mono ?_
    rintro e w1 ⟨rfl, hb1⟩
    go_wp2_with fail
    go_ret
    exact ⟨ret_int HN.out.symm, below_then hT0 hb1⟩
  | true =>
    have hpp := polyB_iff.1 ep
    have h3 := hpp.1
    have h16 := hpp.2.1
    have HQ : Hid (contB l (x, y) = inN l (x, y) l.length) := by show _ = _; unfold contB; rw [if_pos ep]
    have HVX := hide (fun k (hk : k < l.length) => poly_vec hpp hk)
    rw [ep] at HP
    have HI := hide (fun (W : World) (hb : Below W0.heap.size W0 W) => impl_IsValidPoint W B (Nat.le_trans hB0 hb.size) (P0.below (hb.mono hB0)))
    have hq : (ratQ (vecP x y).1 && ratQ (vecP x y).2) = true := by
      show (ratQ (intQ x) && ratQ (intQ y)) = true
      rw [ratQ_int hv.1 hv.2.1, ratQ_int hv.2.2.1 hv.2.2.2]; rfl
    rw [hq] at HI
    obtain ⟨⟨A1, n1, c1, D1, m1, d1, rfl, rfl, rfl, r1, r2, -, -⟩, ⟨A2, n2, c2, D2, m2, d2, rfl, rfl, rfl, r3, r4, -, -⟩⟩ := P0
    have HS := hide (fun (W : World) (hb : Below W0.heap.size W0 W) => impl_scaledOf W B (Nat.le_trans hB0 hb.size) (capZ x).1 A1 n1 c1 (capZ x).2 (r1.below (hb.mono hB0)) D1 m1 d1 [1] (r2.below (hb.mono hB0)) (capZ y).1 A2 n2 c2 (capZ y).2 (r3.below (hb.mono hB0)) D2 m2 d2 [1] (r4.below (hb.mono hB0)))
    rw [mulZ_one hv.1 hv.2.1, mulZ_one hv.2.2.1 hv.2.2.2, mulL_one] at HS
    clear ep hpp hq r1 r2 r3 r4
    obtain ⟨hn, hx, hl, hwf⟩ := R0
    have HKP := hide kp
    obtain ⟨⟨q0, q1, q2, q3, q4, q5⟩, -⟩ := kp.facts6
    go_enter Tryz.func7, Tryz.ntmps7
    go_upto_region 1 with fail
    rw [← hW0]
    clear hW0 kp
    go_wp2_with fail
    refine HP.out.mono ?_
    rintro e w1 ⟨rfl, hb1⟩
    clear q0 q1 q2 q3 q4 q5
    obtain ⟨⟨q0, q1, q2, q3, q4, q5⟩, -⟩ := (HKP.out.below hb1 HKP.out.lt).facts6
    go_wp2_with fail
    refine (HI.out _ hb1).mono ?_
    rintro e w2 ⟨rfl, hb2⟩
    clear q0 q1 q2 q3 q4 q5
    have hb2 := below_then hb1 hb2
    obtain ⟨⟨q0, q1, q2, q3, q4, q5⟩, -⟩ := (HKP.out.below hb2 HKP.out.lt).facts6
    clear hb1
    go_wp2_with fail
    refine (HS.out _ hb2).mono ?_
    rintro e w3 ⟨v1, v2, v3, rfl, o1, o2, o3, hb3⟩
    obtain ⟨A3, c3, rfl⟩ := o1.form
    obtain ⟨A4, c4, rfl⟩ := o2.form
    obtain ⟨A5, c5, rfl⟩ := o3.form
    have hb3 := below_then hb2 hb3
    have hT3 := below_then hT0 hb3
    have RX := RdI.of_own o1 (capZ_len2 _) (capZ_limbs _)
    have RY := RdI.of_own o2 (capZ_len2 _) (capZ_limbs _)
    have RS : RdI w3 w3.heap.size A5 1 [1] := RdI.of_own o3 (by simp) (by have := capZ_limbs 1; rw [cap_one] at this; exact this)
    clear q0 q1 q2 q3 q4 q5 hb2 o1 o2 o3 HP HI HS HKP
    obtain ⟨W4, hW4⟩ : ∃ W4, W4 = w3.alloc (.cells #[.bool (capZ x).1, .slice A3 (capZ x).2.length c3, .bool (capZ y).1, .slice A4 (capZ y).2.length c4, .bool false, .slice A5 1 c5] 53) := ⟨_, rfl⟩
    have hb34 : Below w3.heap.size w3 W4 := by rw [hW4]; exact below_new _ _
    have k5 : Box W4 w3.heap.size 53 #[.bool (capZ x).1, .slice A3 (capZ x).2.length c3, .bool (capZ y).1, .slice A4 (capZ y).2.length c4, .bool false, .slice A5 1 c5] := by rw [hW4]; exact Box.last _ _ _ rfl
    have hT4 := below_then hT3 hb34
    have RX := RX.below hb34
    have RY := RY.below hb34
    have RS := RS.below hb34
    have h34 := hb34.size
    have hx4 := (hx.below (hb3.mono hB0)).below (hb34.mono (Nat.le_trans hB hT3.size))
    have hBW : B ≤ W4.heap.size := Nat.le_trans hB hT4.size
    obtain ⟨g5, hg5⟩ : ∃ g5, g5 = w3.heap.size := ⟨_, rfl⟩
    rw [← hg5] at k5
    go_upto_region 4 with fail
    rw [← hW4, ← hg5]
    clear hW4 hg5 hb34 hb3 hx
    obtain ⟨V4, hV⟩ : ∃ z, z = W4 := ⟨_, rfl⟩
    subst hV
    go_wp2_with fail
    go_loopw [6, 22] (fun s i wr => ∃ k : Nat, k ≤ n ∧ i = .int .i64 k ∧ s = .int .i64 (inN l (x, y) k) ∧ Below V4.heap.size V4 wr) (fun _ i _ => n - (intOf i).toNat)
    case atStart => exact ⟨0, Nat.zero_le _, rfl, rfl, Below.refl _ _⟩
    case round =>
      obtain ⟨k, hk, rfl, rfl, hbel⟩ := hrel
      by_cases hlt : k < n
      · obtain ⟨ad, hA, hb1, hc1, hc2⟩ := (hx4.below (hbel.mono hBW)).vec (k := k) (by omega)
        have hkl : k < l.length := by omega
        have hmo : ((k : Int) + 1) % (n : Int) = (((k + 1) % n : Nat) : Int) := by rw [Int.natCast_emod]; rfl
        have hp : (k + 1) % n < n := Nat.mod_lt _ (by omega)
        have hpl : Hid ((k + 1) % l.length = (k + 1) % n) := by show _ = _; rw [hn]
        generalize (k + 1) % n = p at *
        have hpl2 : p < l.length := by omega
        have hvk := HVX.out k hkl
        have hvp := HVX.out p hpl2
        rw [atV_eq hkl] at hvk
        rw [atV_eq hpl2] at hvp
        have HC := hide (fun (W : World) (hb : Below V4.heap.size V4 W) => show Calls Tryz.prog 22 #[.agg #[.bool (capZ x).1, .slice A3 (capZ x).2.length c3, .bool (capZ y).1, .slice A4 (capZ y).2.length c4, .bool false, .slice A5 1 c5], .agg #[.int .i64 l[k].1, .int .i64 l[k].2], .agg #[.int .i64 l[p].1, .int .i64 l[p].2]] W fun e w' => e = .returned (.int .i64 (sgE l (x, y) k)) ∧ Below W.heap.size W w' from by
          have h := impl_sideOf W V4.heap.size hb.size x y 1 A3 A4 A5 _ c3 _ c4 1 c5 (pair_up (RX.below (hb.mono h34)) h34) (pair_up (RY.below (hb.mono h34)) h34) (by rw [cap_one]; exact pair_up (RS.below (hb.mono h34)) h34) (by omega) (by omega) (by omega) l[k].1 l[k].2 l[p].1 l[p].2 hvk hvp
          rw [cap_one, cmp_sgE hkl hpl2 hpl.out] at h
          exact h)
        have hsr := sgE_range l (x, y) k
        have hir := inN_range l (x, y) k
        have HN1 : Hid (inN l (x, y) (k + 1) = min (inN l (x, y) k) (sgE l (x, y) k)) := rfl
        have HNg : Hid (sgE l (x, y) k < 0 → inN l (x, y) l.length = -1) := fun h => by
          have h1 := inN_le l (x, y) l.length k hkl
          have h2 := (inN_range l (x, y) l.length).1
          omega
        generalize sgE l (x, y) k = sg at *
        generalize inN l (x, y) k = ac at *
        clear hvk hvp
        generalize l[k].1 = x0 at *
        generalize l[k].2 = y0 at *
        obtain ⟨W0', hW0⟩ : ∃ W0', W0' = wr.alloc (.cells #[.int .i64 x0, .int .i64 y0] 26) := ⟨_, rfl⟩
        have ka : Box W0' wr.heap.size 26 #[.int .i64 x0, .int .i64 y0] := by rw [hW0]; exact Box.last _ _ _ rfl
        have hT : Below wr.heap.size wr W0' := by rw [hW0]; exact below_new _ _
        have hT0' := hbel.trans (hT.mono hbel.size)
        subst hA
        go_upto_region 7 with fail
        rw [← hW0]
        clear hW0 hc1 hc2
        obtain ⟨ad', hA', hb2, hc1, hc2⟩ := (hx4.below (hT0'.mono hBW)).vec (k := p) (by omega)
        cases hA'
        have hx' : (ad.add (p * 2)).block < W0'.heap.size := by rw [add_block]; have := hT0'.size; omega
        have hl0 := ka.lt
        have k5' := k5.below hT0' k5.lt
        have hl5 := k5'.lt
        obtain ⟨ya0, ya1⟩ := ka.cells2
        obtain ⟨⟨q0, q1, q2, q3, q4, q5⟩, -⟩ := k5'.facts6
        generalize l[p].1 = x2 at *
        generalize l[p].2 = y2 at *
        have hm0 : ((k : Int) + 1).tmod (n : Int) = (p : Int) := by rw [Int.tmod_eq_emod_of_nonneg (by omega)]; exact hmo
        have hw1 : IntKind.i64.wrap ((k : Int) + 1) = (k : Int) + 1 := IntWalk.i64_in _ (by omega)
        have hw2 : IntKind.i64.wrap (p : Int) = (p : Int) := IntWalk.i64_in _ (by omega)
        have hi1 : 0 ≤ (p : Int) := Int.natCast_nonneg _
        have hi2 : (p : Int) < (n : Int) := by omega
        have hi3 : 0 ≤ (k : Int) + 1 := by omega
        have hi4 : 0 < (n : Int) := by omega
        have hi6 : p < n := hp
        have hi7 : n ≠ 0 := by omega
        have hi8 : (((n : Int) == 0) = false) := by simpa using hi7
        clear hpl RX RY RS k5' ka
        go_region_held3 (fun w' => w'.cell? ⟨wr.heap.size, 0, none⟩ = some (.int .i64 x0) ∧ w'.cell? ⟨wr.heap.size, 1, none⟩ = some (.int .i64 y0) ∧ w'.cell? (ad.add (p * 2)) = some (.int .i64 x2) ∧ w'.cell? ⟨(ad.add (p * 2)).block, (ad.add (p * 2)).off + 1, none⟩ = some (.int .i64 y2) ∧ w'.cell? ⟨g5, 0, none⟩ = some (.bool (capZ x).1) ∧ w'.cell? ⟨g5, 1, none⟩ = some (.slice A3 (capZ x).2.length c3) ∧ w'.cell? ⟨g5, 2, none⟩ = some (.bool (capZ y).1) ∧ w'.cell? ⟨g5, 3, none⟩ = some (.slice A4 (capZ y).2.length c4) ∧ w'.cell? ⟨g5, 4, none⟩ = some (.bool false) ∧ w'.cell? ⟨g5, 5, none⟩ = some (.slice A5 1 c5) ∧ Below W0'.heap.size W0' w')
            (first | exact ⟨ya0, ya1, hc1, hc2, q0, q1, q2, q3, q4, q5, (Below.refl _ _).drew⟩ | exact ⟨(hb9.cell hl0).trans ya0, (hb9.cell (p := ⟨_, _, none⟩) hl0).trans ya1, (hb9.cell hx').trans hc1, (hb9.cell (p := ⟨_, _, none⟩) hx').trans hc2, (hb9.cell (p := ⟨_, _, none⟩) hl5).trans q0, (hb9.cell (p := ⟨_, _, none⟩) hl5).trans q1, (hb9.cell (p := ⟨_, _, none⟩) hl5).trans q2, (hb9.cell (p := ⟨_, _, none⟩) hl5).trans q3, (hb9.cell (p := ⟨_, _, none⟩) hl5).trans q4, (hb9.cell (p := ⟨_, _, none⟩) hl5).trans q5, undrew hb9⟩)
            (first | (go_at_call 22; (with_reducible refine Calls.mono (HC.out _ hT0'.drew) ?_); rintro e w1 ⟨rfl, hb9⟩))
        have hT1 := hT0'.trans ((undrew hb9).mono hT0'.size)
        by_cases hs : sg < 0
        · have HN := hide (HNg.out hs)
          go_wp2_with fail
          go_ret
          exact ⟨ret_int (by rw [HQ.out, HN.out]), below_then hT4 hT1⟩
        · go_wp2_with fail
          go_roundw
          case rel => exact ⟨k + 1, by omega, by go_num, by rw [HN1.out]; congr 1; split <;> omega, hT1⟩
          case measure => simp [intOf]; omega
      · obtain rfl : k = n := by omega
        have HN : Hid (inN l (x, y) l.length = inN l (x, y) k) := by show _ = _; rw [hn]
        clear hx4
        go_wp2_with fail
        go_ret
        exact ⟨ret_int (by rw [HQ.out, HN.out]), below_then hT4 hbel⟩
end Go.Proofs.YtdagomikjblgiaaGreat
