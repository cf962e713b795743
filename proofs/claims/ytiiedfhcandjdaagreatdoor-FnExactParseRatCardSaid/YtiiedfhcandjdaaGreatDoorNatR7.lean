/-
  The reference's natural numbers: contracts (7): l02Small, l02Digit.
-/
import Derived.Test.YtiiedfhcandjdaaGreatDoorPB
import Derived.Test.YtiiedfhcandjdaaGreatDoorIA
import Derived.Test.YtiiedfhcandjdaaGreatDoorRA
namespace Go.Proofs.YtiiedfhcandjdaaGreatDoor
open Go.RowKit
set_option linter.unusedVariables false

set_option maxHeartbeats 1600000 in
theorem spec_Small (w : World) (B : Nat) (hB : B ≤ w.heap.size) (A : Option Addr) (n c : Nat) (xs : List Int) (d : Int) (hn : xs.length = n) (hx : Rd w B A (iv xs)) (hl : n ≤ 1000000) (hlx : Limbs xs) (hd0 : 1 ≤ d) (hd1 : d ≤ 999999999) :
    Calls Tryz.prog 81 #[.slice A n c, .int .i64 d] w fun e w' => ∃ v, e = .returned (.tuple #[v, .int .i64 (val xs % d)]) ∧ w'.ownsRow w.heap.size 3 1 v (limbs (val xs / d).toNat).length (iv (limbs (val xs / d).toNat)) ∧ Below w.heap.size w w' := by
  obtain ⟨i0, hi0, hz0, hz1, hz2⟩ := info_parts Tryz.infoInt
  obtain ⟨w1, hmk, hown0, hg0⟩ := run_make_full (P := Tryz.prog) w w.heap.size 22 3 i0 _ 1 Tryz.underlying22 hi0 hz0 hz1 .i64 .i64 n (by rw [hz2]; omega) (by unfold maxLen; omega) (Nat.le_refl _)
  have hb0 : Below w.heap.size w w1 := (Below.refl _ _).grown hg0 (Nat.le_refl _) (fun k h => by cases h)
  rw [made_zeros] at hown0
  have hbk : Blk w1 w.heap.size 3 (List.replicate n 0 ++ []) := by unfold Blk; rw [List.append_nil, List.length_replicate]; exact hown0
  have hS0 := DivS.start xs (d := d) (by omega)
  rw [hn] at hS0
  clear hi0 hz0 hz1 hz2 hg0 hown0
  go_enter Tryz.func81, Tryz.ntmps81
  go_wp2_with fail
  go_loopw [7, 8] (fun rr i wr => ∃ (k : Nat) (r : Int) (done : List Int), k ≤ n ∧ rr = .int .i64 r ∧ i = .int .i64 ((k : Int) - 1) ∧ Blk wr w.heap.size 3 (List.replicate k 0 ++ done) ∧ Hid (DivS xs done d r k) ∧ Below w.heap.size w wr) (fun _ i _ => (intOf i + 1).toNat)
  case atStart => exact ⟨n, 0, [], Nat.le_refl _, rfl, rfl, hbk, hS0, hb0⟩
  case round =>
    clear hbk hb0 hmk hS0
    obtain ⟨k, r, done, hk, rfl, rfl, hbk, S, hbl⟩ := hrel
    by_cases hk0 : k = 0
    · subst hk0
      rw [List.replicate_zero, List.nil_append] at hbk
      obtain ⟨hv, hr⟩ := S.out.done
      have hdl := S.out.len
      have hT : trim done = limbs (val xs / d).toNat := trim_eq S.out.ok (by
        have := val_nonneg S.out.ok
        rw [← hv]; omega)
      have HT := hide hT
      have HR := hide hr
      have HL : Hid (done.length = n) := by show _ = _; omega
      have HC := hide (spec_Trim wr (w.heap.size + 1) (some ⟨w.heap.size, 0, none⟩) n n done HL.out hbk.rd (Nat.le_refl _) (by unfold maxLen; omega))
      have HB := hide hbk
      clear hv hr hT S hx hlx hdl hbk
      go_wp2_with fail
      refine HC.out.mono ?_
      rintro e w' ⟨m, rfl, hm, ht, rfl⟩
      have HO := hide (own_trim HB.out (m := m) (by rw [HL.out]; exact hm) ht)
      clear ht
      go_wp2_with fail
      go_ret2
      refine ⟨_, ret_si rfl HR.out, ?_, hbl⟩
      have := HO.out
      rwa [HT.out, HL.out] at this
    · obtain ⟨j, rfl⟩ : ∃ j, k = j + 1 := ⟨k - 1, by omega⟩
      rw [show (((j + 1 : Nat) : Int) - 1) = (j : Int) by omega]
      obtain ⟨ad, hA, hab, hc⟩ := (hx.below (hbl.mono hB)).int (k := j) (by omega)
      obtain ⟨hs0, hs1⟩ := S.out.small hlx (by omega)
      obtain ⟨hy0, hy1⟩ := hlx xs[j] (List.getElem_mem _)
      have hr0 := S.out.r0
      have hr1 := S.out.r1
      have HN := hide (fun q r' => S.out.next (q := q) (r' := r') hlx (by omega : j < xs.length))
      have HQ := hide (fun q r' => S.out.q (q := q) (r' := r') hlx (by omega : j < xs.length))
      generalize xs[j] = y at *
      have htd : (r * 1000000000 + y).tdiv d = (r * 1000000000 + y) / d := Int.tdiv_eq_ediv_of_nonneg hs0
      have htm : (r * 1000000000 + y).tmod d = (r * 1000000000 + y) % d := Int.tmod_eq_emod_of_nonneg hs0
      have hde := Int.mul_ediv_add_emod (r * 1000000000 + y) d
      have hm0 := Int.emod_nonneg (r * 1000000000 + y) (show d ≠ 0 by omega)
      have hm1 := Int.emod_lt_of_pos (r * 1000000000 + y) (show 0 < d by omega)
      generalize (r * 1000000000 + y) / d = q at *
      generalize (r * 1000000000 + y) % d = r' at *
      obtain ⟨hq0, hq1⟩ := HQ.out q r' hde.symm hm0 hm1
      have HS := hide (HN.out q r' hde.symm hm0 hm1)
      have hj1 : j < (List.replicate (j + 1) 0 ++ done).length := by simp; omega
      have hcell := hbk.cell hj1
      have hfz := hbk.frozen j
      have HB := hide (hbk.set j q)
      rw [zset] at HB
      have HBL := hide (hbl.setCell (p := ⟨w.heap.size, j, none⟩) (Nat.le_refl _) (.int .i64 q))
      generalize (List.replicate (j + 1) 0 ++ done)[j] = z at *
      clear hde S hbk HN HQ hlx hx hk0 hj1
      subst hA
      go_wp2_with fail
      go_roundw
      case rel => exact ⟨j, r', q :: done, by omega, rfl, rfl, HB.out, HS.out, HBL.out⟩
      case measure => simp [intOf]
/-! ### l02Digit -/
set_option maxHeartbeats 1600000 in
theorem spec_Digit (w : World) (B : Nat) (hB : B ≤ w.heap.size) (A A' : Option Addr) (n m c c' : Nat) (rs ys : List Int) (hn : rs.length = n) (hm : ys.length = m) (hx : Rd w B A (iv rs)) (hy : Rd w B A' (iv ys)) (hl : n ≤ 1000000) (hl' : m ≤ 1000000) (hcr : Canon rs) (hcy : Canon ys) (h0 : 0 < val ys) (hlt : val rs < 1000000000 * val ys) :
    Calls Tryz.prog 82 #[.slice A n c, .slice A' m c'] w fun e w' => e = .returned (.int .i64 (val rs / val ys)) ∧ Below w.heap.size w w' := by
  have hq0 : 0 ≤ val rs / val ys := Int.ediv_nonneg (val_nonneg hcr.1) (Int.le_of_lt h0)
  have hq1 : val rs / val ys ≤ 999999999 := by
    have := Int.ediv_lt_of_lt_mul h0 hlt
    omega
  have HQ : Hid (∀ q : Int, q * val ys ≤ val rs ↔ q ≤ val rs / val ys) := fun q => (Int.le_ediv_iff_mul_le h0).symm
  go_enter Tryz.func82, Tryz.ntmps82
  go_wp2_with fail
  go_loopw [5, 6] (fun a b wr => ∃ (lo hi : Int), a = .int .i64 lo ∧ b = .int .i64 hi ∧ 0 ≤ lo ∧ lo ≤ val rs / val ys ∧ val rs / val ys ≤ hi ∧ hi ≤ 999999999 ∧ Below w.heap.size w wr) (fun a b _ => (intOf b - intOf a).toNat)
  case atStart => exact ⟨0, 999999999, rfl, rfl, Int.le_refl _, hq0, hq1, Int.le_refl _, Below.refl _ _⟩
  case round =>
    obtain ⟨lo, hi, rfl, rfl, hlo0, hlo, hhi, hhi1, hbl⟩ := hrel
    generalize hQ : val rs / val ys = Q at *
    by_cases hlh : lo < hi
    · have htd : (lo + hi + 1).tdiv 2 = (lo + hi + 1) / 2 := Int.tdiv_eq_ediv_of_nonneg (by omega)
      obtain ⟨q, hq⟩ : ∃ q, q = (lo + hi + 1) / 2 := ⟨_, rfl⟩
      rw [← hq] at htd
      have hqa : lo < q := by omega
      have hqb : q ≤ hi := by omega
      have hqw : (Lit.int .i64 q).wf = true := WalkArith.wf_i64 ⟨by omega, by omega⟩
      have HO := hide (spec_NatOf wr B (by have := hbl.size; omega) q hqw)
      have hx' := hx.below (hbl.mono hB)
      have hy' := hy.below (hbl.mono hB)
      have hsz := hbl.size
      have HM := hide (fun w2 (hb2 : Below wr.heap.size wr w2) A2 c2 (hz : Rd w2 w2.heap.size A2 (iv (limbs q.toNat))) => spec_Mul w2 w2.heap.size (Nat.le_refl _) A' A2 m (limbs q.toNat).length c' c2 ys (limbs q.toNat) hm rfl ((hy'.below (hb2.mono (by omega))).wider (by have := hb2.size; omega)) hz hl' (by have := (limbs_len (n := q.toNat) (k := 3)).2 (by omega); omega) hcy.1 (limbs_ok _))
      have hvq : val (limbs q.toNat) = q := by rw [val_limbs]; omega
      rw [hvq] at HM
      obtain ⟨P, hP⟩ : ∃ P : Nat, P = (val ys * q).toNat := ⟨_, rfl⟩
      have hP2 : ((P : Nat) : Int) = q * val ys := by
        have : 0 ≤ val ys * q := Int.mul_nonneg (Int.le_of_lt h0) (by omega)
        rw [hP, Int.mul_comm q]; omega
      rw [← hP] at HM
      have hPl : (limbs P).length ≤ 1000003 := by
        have h1 := val_lt hcy.1
        have h2 : q * val ys < 1000000000 * 1000000000 ^ m := by
          rw [hm] at h1
          exact Int.lt_of_le_of_lt (Int.mul_le_mul_of_nonneg_right (by omega) (Int.le_of_lt h0)) (Int.mul_lt_mul_of_pos_left h1 (by omega))
        have h3 : P < 1000000000 ^ (m + 1) := by
          rw [← hP2, Int.mul_comm, ← Int.pow_succ, pow_cast] at h2
          exact Int.ofNat_lt.1 h2
        have := limbs_len.2 h3
        omega
      have HC := hide (fun w3 (hb3 : Below wr.heap.size wr w3) A3 c3 (hz : Rd w3 w3.heap.size A3 (iv (limbs P))) => spec_Cmp w3 w3.heap.size A3 A (limbs P).length n c3 c (limbs P) rs rfl hn hz ((hx'.below (hb3.mono (by omega))).wider (by have := hb3.size; omega)) (by omega) (by omega) (limbs_canon _) hcr)
      rw [val_limbs, hP2] at HC
      have HB := hide hbl
      have hle := HQ.out q
      have hrq := hP2
      by_cases hbr : q ≤ Q
      · have hcv : cmpV (q * val ys) (val rs) ≤ 0 := by
          have := hle.2 hbr
          unfold cmpV
          split
          · omega
          · split <;> omega
        generalize cmpV (q * val ys) (val rs) = cv at *
        clear hx hy hx' hy' HQ hP hvq hP2 hle hrq hbl hq hPl hqw
        go_wp2_with fail
        refine HO.out.mono ?_
        rintro e w2 ⟨v2, rfl, o2, hb2⟩
        obtain ⟨A2, c2, rfl, _, _, hr2⟩ := own_reads o2
        have HM2 := hide (HM.out w2 hb2 A2 c2 hr2)
        have hs2 := hb2.size
        have HB2 := hide hb2
        clear o2 hr2 hb2
        go_wp2_with fail
        refine HM2.out.mono ?_
        rintro e w3 ⟨v3, rfl, o3, hb3⟩
        obtain ⟨A3, c3, rfl, _, _, hr3⟩ := own_reads o3
        have hbb := HB2.out.trans (hb3.mono hs2)
        have HC3 := hide (HC.out w3 hbb A3 c3 hr3)
        have HBB := hide hbb
        clear o3 hr3 hb3 hbb
        go_wp2_with fail
        refine HC3.out.mono ?_
        rintro e w4 ⟨rfl, dd, rfl⟩
        have HB4 := hide (HB.out.trans ((below_drewN HBB.out dd).mono hsz))
        go_wp2_with fail
        go_roundw
        case rel => exact ⟨q, hi, rfl, rfl, by omega, hbr, hhi, hhi1, HB4.out⟩
        case measure => simp [intOf]; omega
      · have hcv : ¬ cmpV (q * val ys) (val rs) ≤ 0 := by
          have : ¬ q * val ys ≤ val rs := fun h => hbr (hle.1 h)
          rw [cmpV_gt (by omega)]; omega
        generalize cmpV (q * val ys) (val rs) = cv at *
        clear hx hy hx' hy' HQ hP hvq hP2 hle hrq hbl hq hPl hqw
        go_wp2_with fail
        refine HO.out.mono ?_
        rintro e w2 ⟨v2, rfl, o2, hb2⟩
        obtain ⟨A2, c2, rfl, _, _, hr2⟩ := own_reads o2
        have HM2 := hide (HM.out w2 hb2 A2 c2 hr2)
        have hs2 := hb2.size
        have HB2 := hide hb2
        clear o2 hr2 hb2
        go_wp2_with fail
        refine HM2.out.mono ?_
        rintro e w3 ⟨v3, rfl, o3, hb3⟩
        obtain ⟨A3, c3, rfl, _, _, hr3⟩ := own_reads o3
        have hbb := HB2.out.trans (hb3.mono hs2)
        have HC3 := hide (HC.out w3 hbb A3 c3 hr3)
        have HBB := hide hbb
        clear o3 hr3 hb3 hbb
        go_wp2_with fail
        refine HC3.out.mono ?_
        rintro e w4 ⟨rfl, dd, rfl⟩
        have HB4 := hide (HB.out.trans ((below_drewN HBB.out dd).mono hsz))
        go_wp2_with fail
        go_roundw
        case rel => exact ⟨lo, q - 1, rfl, rfl, hlo0, hlo, by omega, by omega, HB4.out⟩
        case measure => simp [intOf]; omega
    · have hE : lo = Q := by omega
      subst hE
      have HE := hide hQ
      clear hx hy HQ
      go_wp2_with fail
      go_ret
      exact ⟨rfl, hbl⟩
end Go.Proofs.YtiiedfhcandjdaaGreatDoor
