/-
  The texts NatR7, NatR8, NatR9, put together; each has its own heading below. No condition of ours.
-/
import Derived.Test.YtdcceppednngjaaGreatPB
import Derived.Test.YtdcceppednngjaaGreatIA
import Derived.Test.YtdcceppednngjaaGreatRA
import Derived.Laws.AppendOwnNone
/-
  The reference's natural numbers: contracts (7): l02Small, l02Digit.
-/



namespace Go.Proofs.YtdcceppednngjaaGreat
open Go.RowKit
set_option linter.unusedVariables false

set_option maxHeartbeats 1600000 in
theorem spec_Small (w : World) (B : Nat) (hB : B ≤ w.heap.size) (A : Option Addr) (n c : Nat) (xs : List Int) (d : Int) (hn : xs.length = n) (hx : Rd w B A (iv xs)) (hl : n ≤ 1000000) (hlx : Limbs xs) (hd0 : 1 ≤ d) (hd1 : d ≤ 999999999) :
    Calls Tryz.prog 76 #[.slice A n c, .int .i64 d] w fun e w' => ∃ v, e = .returned (.tuple #[v, .int .i64 (val xs % d)]) ∧ w'.ownsRow w.heap.size 3 1 v (limbs (val xs / d).toNat).length (iv (limbs (val xs / d).toNat)) ∧ Below w.heap.size w w' := by
  obtain ⟨i0, hi0, hz0, hz1, hz2⟩ := info_parts Tryz.infoInt
  obtain ⟨w1, hmk, hown0, hg0⟩ := run_make_full (P := Tryz.prog) w w.heap.size 26 3 i0 _ 1 Tryz.underlying26 hi0 hz0 hz1 .i64 .i64 n (by rw [hz2]; omega) (by unfold maxLen; omega) (Nat.le_refl _)
  have hb0 : Below w.heap.size w w1 := (Below.refl _ _).grown hg0 (Nat.le_refl _) (fun k h => by cases h)
  rw [made_zeros] at hown0
  have hbk : Blk w1 w.heap.size 3 (List.replicate n 0 ++ []) := by unfold Blk; rw [List.append_nil, List.length_replicate]; exact hown0
  have hS0 := DivS.start xs (d := d) (by omega)
  rw [hn] at hS0
  clear hi0 hz0 hz1 hz2 hg0 hown0
  go_enter Tryz.func76, Tryz.ntmps76
  go_wp2_with fail
  go_loopw [7, 8] (fun rr i wr => ∃ (k : Nat) (r : Int) (done : List Int), k ≤ n ∧ rr = .int .i64 r ∧ i = .int .i64 ((k : Int) - 1) ∧ Blk wr w.heap.size 3 (List.replicate k 0 ++ done) ∧ Hid (DivS xs done d r k) ∧ Below w.heap.size w wr) (fun _ i _ => (intOf i + 1).toNat)
  case atStart => exact ⟨n, 0, [], Nat.le_refl _, rfl, rfl, hbk, hS0, hb0⟩
  case round =>
    clear hbk hb0 hmk hS0
    obtain ⟨k, r, done, hk, rfl, rfl, hbk, S, hbl⟩ := hrel
    by_cases hk0 : k = 0
    · subst hk0
      rw [List.replicate_zero, List.nil_append] at hbk
      obtain ⟨hv, hr⟩ := S.out.done
      have hdl := S.out.len
      have hT : trim done = limbs (val xs / d).toNat := trim_eq S.out.ok (by
        have := val_nonneg S.out.ok
        rw [← hv]; omega)
      have HT := hide hT
      have HR := hide hr
      have HL : Hid (done.length = n) := by show _ = _; omega
      have HC := hide (spec_Trim wr (w.heap.size + 1) (some ⟨w.heap.size, 0, none⟩) n n done HL.out hbk.rd (Nat.le_refl _) (by unfold maxLen; omega))
      have HB := hide hbk
      clear hv hr hT S hx hlx hdl hbk
      go_wp2_with fail
      refine HC.out.mono ?_
      rintro e w' ⟨m, rfl, hm, ht, rfl⟩
      have HO := hide (own_trim HB.out (m := m) (by rw [HL.out]; exact hm) ht)
      clear ht
      go_wp2_with fail
      go_ret2
      refine ⟨_, ret_si rfl HR.out, ?_, hbl⟩
      have := HO.out
      rwa [HT.out, HL.out] at this
    · obtain ⟨j, rfl⟩ : ∃ j, k = j + 1 := ⟨k - 1, by omega⟩
      rw [show (((j + 1 : Nat) : Int) - 1) = (j : Int) by omega]
      obtain ⟨ad, hA, hab, hc⟩ := (hx.below (hbl.mono hB)).int (k := j) (by omega)
      obtain ⟨hs0, hs1⟩ := S.out.small hlx (by omega)
      obtain ⟨hy0, hy1⟩ := hlx xs[j] (List.getElem_mem _)
      have hr0 := S.out.r0
      have hr1 := S.out.r1
      have HN := hide (fun q r' => S.out.next (q := q) (r' := r') hlx (by omega : j < xs.length))
      have HQ := hide (fun q r' => S.out.q (q := q) (r' := r') hlx (by omega : j < xs.length))
      generalize xs[j] = y at *
      have htd : (r * 1000000000 + y).tdiv d = (r * 1000000000 + y) / d := Int.tdiv_eq_ediv_of_nonneg hs0
      have htm : (r * 1000000000 + y).tmod d = (r * 1000000000 + y) % d := Int.tmod_eq_emod_of_nonneg hs0
      have hde := Int.mul_ediv_add_emod (r * 1000000000 + y) d
      have hm0 := Int.emod_nonneg (r * 1000000000 + y) (show d ≠ 0 by omega)
      have hm1 := Int.emod_lt_of_pos (r * 1000000000 + y) (show 0 < d by omega)
      generalize (r * 1000000000 + y) / d = q at *
      generalize (r * 1000000000 + y) % d = r' at *
      obtain ⟨hq0, hq1⟩ := HQ.out q r' hde.symm hm0 hm1
      have HS := hide (HN.out q r' hde.symm hm0 hm1)
      have hj1 : j < (List.replicate (j + 1) 0 ++ done).length := by simp; omega
      have hcell := hbk.cell hj1
      have hfz := hbk.frozen j
      have HB := hide (hbk.set j q)
      rw [zset] at HB
      have HBL := hide (hbl.setCell (p := ⟨w.heap.size, j, none⟩) (Nat.le_refl _) (.int .i64 q))
      generalize (List.replicate (j + 1) 0 ++ done)[j] = z at *
      clear hde S hbk HN HQ hlx hx hk0 hj1
      subst hA
      go_wp2_with fail
      go_roundw
      case rel => exact ⟨j, r', q :: done, by omega, rfl, rfl, HB.out, HS.out, HBL.out⟩
      case measure => simp [intOf]
/-! ### l02Digit -/
set_option maxHeartbeats 1600000 in
theorem spec_Digit (w : World) (B : Nat) (hB : B ≤ w.heap.size) (A A' : Option Addr) (n m c c' : Nat) (rs ys : List Int) (hn : rs.length = n) (hm : ys.length = m) (hx : Rd w B A (iv rs)) (hy : Rd w B A' (iv ys)) (hl : n ≤ 1000000) (hl' : m ≤ 1000000) (hcr : Canon rs) (hcy : Canon ys) (h0 : 0 < val ys) (hlt : val rs < 1000000000 * val ys) :
    Calls Tryz.prog 77 #[.slice A n c, .slice A' m c'] w fun e w' => e = .returned (.int .i64 (val rs / val ys)) ∧ Below w.heap.size w w' := by
  have hq0 : 0 ≤ val rs / val ys := Int.ediv_nonneg (val_nonneg hcr.1) (Int.le_of_lt h0)
  have hq1 : val rs / val ys ≤ 999999999 := by
    have := Int.ediv_lt_of_lt_mul h0 hlt
    omega
  have HQ : Hid (∀ q : Int, q * val ys ≤ val rs ↔ q ≤ val rs / val ys) := fun q => (Int.le_ediv_iff_mul_le h0).symm
  go_enter Tryz.func77, Tryz.ntmps77
  go_wp2_with fail
  go_loopw [5, 6] (fun a b wr => ∃ (lo hi : Int), a = .int .i64 lo ∧ b = .int .i64 hi ∧ 0 ≤ lo ∧ lo ≤ val rs / val ys ∧ val rs / val ys ≤ hi ∧ hi ≤ 999999999 ∧ Below w.heap.size w wr) (fun a b _ => (intOf b - intOf a).toNat)
  case atStart => exact ⟨0, 999999999, rfl, rfl, Int.le_refl _, hq0, hq1, Int.le_refl _, Below.refl _ _⟩
  case round =>
    obtain ⟨lo, hi, rfl, rfl, hlo0, hlo, hhi, hhi1, hbl⟩ := hrel
    generalize hQ : val rs / val ys = Q at *
    by_cases hlh : lo < hi
    · have htd : (lo + hi + 1).tdiv 2 = (lo + hi + 1) / 2 := Int.tdiv_eq_ediv_of_nonneg (by omega)
      obtain ⟨q, hq⟩ : ∃ q, q = (lo + hi + 1) / 2 := ⟨_, rfl⟩
      rw [← hq] at htd
      have hqa : lo < q := by omega
      have hqb : q ≤ hi := by omega
      have hqw : (Lit.int .i64 q).wf = true := WalkArith.wf_i64 ⟨by omega, by omega⟩
      have HO := hide (spec_NatOf wr B (by have := hbl.size; omega) q hqw)
      have hx' := hx.below (hbl.mono hB)
      have hy' := hy.below (hbl.mono hB)
      have hsz := hbl.size
      have HM := hide (fun w2 (hb2 : Below wr.heap.size wr w2) A2 c2 (hz : Rd w2 w2.heap.size A2 (iv (limbs q.toNat))) => spec_Mul w2 w2.heap.size (Nat.le_refl _) A' A2 m (limbs q.toNat).length c' c2 ys (limbs q.toNat) hm rfl ((hy'.below (hb2.mono (by omega))).wider (by have := hb2.size; omega)) hz hl' (by have := (limbs_len (n := q.toNat) (k := 3)).2 (by omega); omega) hcy.1 (limbs_ok _))
      have hvq : val (limbs q.toNat) = q := by rw [val_limbs]; omega
      rw [hvq] at HM
      obtain ⟨P, hP⟩ : ∃ P : Nat, P = (val ys * q).toNat := ⟨_, rfl⟩
      have hP2 : ((P : Nat) : Int) = q * val ys := by
        have : 0 ≤ val ys * q := Int.mul_nonneg (Int.le_of_lt h0) (by omega)
        rw [hP, Int.mul_comm q]; omega
      rw [← hP] at HM
      have hPl : (limbs P).length ≤ 1000003 := by
        have h1 := val_lt hcy.1
        have h2 : q * val ys < 1000000000 * 1000000000 ^ m := by
          rw [hm] at h1
          exact Int.lt_of_le_of_lt (Int.mul_le_mul_of_nonneg_right (by omega) (Int.le_of_lt h0)) (Int.mul_lt_mul_of_pos_left h1 (by omega))
        have h3 : P < 1000000000 ^ (m + 1) := by
          rw [← hP2, Int.mul_comm, ← Int.pow_succ, pow_cast] at h2
          exact Int.ofNat_lt.1 h2
        have := limbs_len.2 h3
        omega
      have HC := hide (fun w3 (hb3 : Below wr.heap.size wr w3) A3 c3 (hz : Rd w3 w3.heap.size A3 (iv (limbs P))) => spec_Cmp w3 w3.heap.size A3 A (limbs P).length n c3 c (limbs P) rs rfl hn hz ((hx'.below (hb3.mono (by omega))).wider (by have := hb3.size; omega)) (by omega) (by omega) (limbs_canon _) hcr)
      rw [val_limbs, hP2] at HC
      have HB := hide hbl
      have hle := HQ.out q
      have hrq := hP2
      by_cases hbr : q ≤ Q
      · have hcv : cmpV (q * val ys) (val rs) ≤ 0 := by
          have := hle.2 hbr
          unfold cmpV
          split
          · omega
          · split <;> omega
        generalize cmpV (q * val ys) (val rs) = cv at *
        clear hx hy hx' hy' HQ hP hvq hP2 hle hrq hbl hq hPl hqw
        go_wp2_with fail
        refine HO.out.mono ?_
        rintro e w2 ⟨v2, rfl, o2, hb2⟩
        obtain ⟨A2, c2, rfl, _, _, hr2⟩ := own_reads o2
        have HM2 := hide (HM.out w2 hb2 A2 c2 hr2)
        have hs2 := hb2.size
        have HB2 := hide hb2
        clear o2 hr2 hb2
        go_wp2_with fail
        refine HM2.out.mono ?_
        rintro e w3 ⟨v3, rfl, o3, hb3⟩
        obtain ⟨A3, c3, rfl, _, _, hr3⟩ := own_reads o3
        have hbb := HB2.out.trans (hb3.mono hs2)
        have HC3 := hide (HC.out w3 hbb A3 c3 hr3)
        have HBB := hide hbb
        clear o3 hr3 hb3 hbb
        go_wp2_with fail
        refine HC3.out.mono ?_
        rintro e w4 ⟨rfl, dd, rfl⟩
        have HB4 := hide (HB.out.trans ((below_drewN HBB.out dd).mono hsz))
        go_wp2_with fail
        go_roundw
        case rel => exact ⟨q, hi, rfl, rfl, by omega, hbr, hhi, hhi1, HB4.out⟩
        case measure => simp [intOf]; omega
      · have hcv : ¬ cmpV (q * val ys) (val rs) ≤ 0 := by
          have : ¬ q * val ys ≤ val rs := fun h => hbr (hle.1 h)
          rw [cmpV_gt (by omega)]; omega
        generalize cmpV (q * val ys) (val rs) = cv at *
        clear hx hy hx' hy' HQ hP hvq hP2 hle hrq hbl hq hPl hqw
        go_wp2_with fail
        refine HO.out.mono ?_
        rintro e w2 ⟨v2, rfl, o2, hb2⟩
        obtain ⟨A2, c2, rfl, _, _, hr2⟩ := own_reads o2
        have HM2 := hide (HM.out w2 hb2 A2 c2 hr2)
        have hs2 := hb2.size
        have HB2 := hide hb2
        clear o2 hr2 hb2
        go_wp2_with fail
        refine HM2.out.mono ?_
        rintro e w3 ⟨v3, rfl, o3, hb3⟩
        obtain ⟨A3, c3, rfl, _, _, hr3⟩ := own_reads o3
        have hbb := HB2.out.trans (hb3.mono hs2)
        have HC3 := hide (HC.out w3 hbb A3 c3 hr3)
        have HBB := hide hbb
        clear o3 hr3 hb3 hbb
        go_wp2_with fail
        refine HC3.out.mono ?_
        rintro e w4 ⟨rfl, dd, rfl⟩
        have HB4 := hide (HB.out.trans ((below_drewN HBB.out dd).mono hsz))
        go_wp2_with fail
        go_roundw
        case rel => exact ⟨lo, q - 1, rfl, rfl, hlo0, hlo, by omega, by omega, HB4.out⟩
        case measure => simp [intOf]; omega
    · have hE : lo = Q := by omega
      subst hE
      have HE := hide hQ
      clear hx hy HQ
      go_wp2_with fail
      go_ret
      exact ⟨rfl, hbl⟩
end Go.Proofs.YtdcceppednngjaaGreat

/-
  The reference's natural numbers: contracts (8): l02Div, NatDiv.
-/



namespace Go.Proofs.YtdcceppednngjaaGreat
open Go.RowKit
set_option linter.unusedVariables false

set_option maxRecDepth 100000 in
/-- the slice's length lies within its capacity -/
def CapOk (v : Value) : Prop := ∃ A n c, v = .slice A n c ∧ n ≤ c ∧ c ≤ maxLen
theorem capOk_own {w : World} {base n : Nat} {E : TypeId} {v : Value} {xs : List Value} (h : w.ownsRow base E 1 v n xs) : CapOk v := by
  rcases h.2 with ⟨h1, h2⟩ | ⟨g, c', cur, hv, _, _, hnc, hcm, _⟩
  · exact ⟨_, _, _, h1, by omega, by unfold maxLen; omega⟩
  · exact ⟨_, _, _, hv, by omega, hcm⟩
set_option maxHeartbeats 4000000 in
theorem spec_DivC (w : World) (B : Nat) (hB : B ≤ w.heap.size) (A A' : Option Addr) (n m c c' : Nat) (xs ys : List Int) (hn : xs.length = n) (hm : ys.length = m) (hx : Rd w B A (iv xs)) (hy : Rd w B A' (iv ys)) (hl : n ≤ 100000) (hl' : m ≤ 100000) (hcx : Canon xs) (hcy : Canon ys) (h0 : 0 < m) :
    Calls Tryz.prog 57 #[.slice A n c, .slice A' m c'] w fun e w' => ∃ v1 v2, e = .returned (.tuple #[v1, v2]) ∧ Two w w' 3 v1 (limbs (val xs / val ys).toNat) v2 (limbs (val xs % val ys).toNat) ∧ Below w.heap.size w w' ∧ CapOk v1 := by
  have hvp : 0 < val ys := val_pos hcy (fun e => by subst e; simp at hm; omega)
  by_cases hm1 : m = 1
  · obtain ⟨d, rfl⟩ : ∃ d, ys = [d] := by
      match ys, hm with
      | [d], _ => exact ⟨d, rfl⟩
      | [], h => simp at h; omega
      | _ :: _ :: _, h => simp at h; omega
    have hd := hcy.1 d (by simp)
    have hdv : val [d] = d := by simp [val]
    rw [hdv] at hvp ⊢
    obtain ⟨ad, hA, hb1, hc1⟩ := hy.int (k := 0) (by simp)
    have hc1' : w.cell? ad = some (.int .i64 d) := by have : w.cell? (ad.add 0) = some (.int .i64 d) := hc1
                                                      rwa [add_zero'] at this
    have HS := hide (spec_Small w B hB A n c xs d hn hx (by omega) hcx.1 (by omega) hd.2)
    have hr0 := Int.emod_nonneg (val xs) (show d ≠ 0 by omega)
    have hr1 := Int.emod_lt_of_pos (val xs) hvp
    generalize val xs % d = r at *
    have HO := hide (fun w1 : World => spec_NatOf w1 w1.heap.size (Nat.le_refl _) r (WalkArith.wf_i64 ⟨by omega, by omega⟩))
    clear hx hy hcx hcy hc1
    subst hA hm1
    go_enter Tryz.func57, Tryz.ntmps57
    go_wp2_with fail
    refine HS.out.mono ?_
    rintro e w1 ⟨v1, rfl, o1, hb1⟩
    have O1 := hide (Own.of o1)
    have HCP := hide (capOk_own o1)
    have HB1 := hide hb1
    have hs1 := hb1.size
    clear o1 hb1
    go_wp2_with fail
    refine (HO.out w1).mono ?_
    rintro e w2 ⟨v2, rfl, o2, hb2⟩
    have O2 := hide (Own.of o2)
    have HB2 := hide hb2
    have hs2 := hb2.size
    clear o2 hb2
    go_wp2_with fail
    go_ret2
    exact ⟨_, _, rfl, ⟨_, _, _, _, O1.out.below HB2.out (Nat.le_refl _), O2.out, Nat.le_refl _, hs1, hs2, Nat.le_refl _, .inl (Nat.le_refl _)⟩, HB1.out.trans (HB2.out.mono hs1), HCP.out⟩
  · have hm1' : ((m : Int) == 1) = false := by simp; omega
    obtain ⟨i0, hi0, hz0, hz1, hz2⟩ := info_parts Tryz.infoInt
    obtain ⟨w1, hmk, hown0, hg0⟩ := run_make_full (P := Tryz.prog) w w.heap.size 26 3 i0 _ 1 Tryz.underlying26 hi0 hz0 hz1 .i64 .i64 n (by rw [hz2]; omega) (by unfold maxLen; omega) (Nat.le_refl _)
    have hb0 : Below w.heap.size w w1 := (Below.refl _ _).grown hg0 (Nat.le_refl _) (fun k h => by cases h)
    rw [made_zeros] at hown0
    have hbk : Blk w1 w.heap.size 3 (List.replicate n 0 ++ []) := by unfold Blk; rw [List.append_nil, List.length_replicate]; exact hown0
    have hsw1 := hbk.lt
    have hrow0 := World.ownsRow_made (base := w.heap.size + 1) (e := 3) (size := 1) w1 #[] 0 (by omega) (by unfold maxLen; omega) rfl
    have hbk1 : Blk (w1.alloc (.cells #[] 3)) w.heap.size 3 (List.replicate n 0 ++ []) := hbk.below ((Below.refl w1.heap.size w1).alloc (Nat.le_refl _) _) hsw1
    have hb1 : Below w.heap.size w (w1.alloc (.cells #[] 3)) := hb0.trans ((Below.refl _ _).alloc hb0.size _)
    have hS0 := DivS.start xs hvp
    rw [hn] at hS0
    have HCX := hide hcx
    have HCY := hide hcy
    have hcy' := hcy.1
    clear hi0 hz0 hz1 hz2 hg0 hown0 hbk hb0 hm1 hcx hcy
    go_enter Tryz.func57, Tryz.ntmps57
    go_wp2_with fail
    go_loopw [9, 10] (fun rv i wr => ∃ (k R : Nat) (done : List Int), k ≤ n ∧ i = .int .i64 ((k : Int) - 1) ∧ Blk wr w.heap.size 3 (List.replicate k 0 ++ done) ∧ wr.ownsRow (w.heap.size + 1) 3 1 rv (limbs R).length (iv (limbs R)) ∧ Hid (DivS xs done (val ys) R k) ∧ Below w.heap.size w wr) (fun _ i _ => (intOf i + 1).toNat)
    case atStart => exact ⟨n, 0, [], Nat.le_refl _, rfl, hbk1, by rw [limbs_zero]; exact hrow0, hS0, hb1⟩
    case round =>
      clear hbk1 hrow0 hS0 hb1 hmk hsw1
      obtain ⟨k, R, done, hk, rfl, hbk, hrow, S, hbl⟩ := hrel
      have hgs := hbk.lt
      by_cases hk0 : k = 0
      · subst hk0
        rw [List.replicate_zero, List.nil_append] at hbk
        obtain ⟨hv, hr⟩ := S.out.done
        have hdl := S.out.len
        have HT : Hid (trim done = limbs (val xs / val ys).toNat) := trim_eq S.out.ok (by
          have := val_nonneg S.out.ok
          rw [← hv]; omega)
        have HR : Hid (limbs R = limbs (val xs % val ys).toNat) := by show _ = _; rw [← hr]; rfl
        have HL : Hid (done.length = n) := by show _ = _; omega
        have HC := hide (spec_Trim wr (w.heap.size + 1) (some ⟨w.heap.size, 0, none⟩) n n done HL.out hbk.rd (Nat.le_refl _) (by unfold maxLen; omega))
        have HB := hide hbk
        have O2 := hide (Own.of_row hrow (Nat.le_refl _))
        clear hv hr S hx hy hdl hbk hrow
        go_wp2_with fail
        refine HC.out.mono ?_
        rintro e w' ⟨mm, rfl, hmm, ht, rfl⟩
        have HO : Hid (Own wr w.heap.size (w.heap.size + 1) 3 (.slice (some ⟨w.heap.size, 0, none⟩) mm n) (limbs (val xs / val ys).toNat).length (iv (limbs (val xs / val ys).toNat))) := by
          have h1 := HB.out.own n mm (by rw [HL.out]; exact hmm) (by rw [HL.out]; omega)
          have h2 : (limbs (val xs / val ys).toNat).length = mm := by rw [← HT.out, ht, List.length_take, HL.out]; omega
          rw [← ht, HT.out] at h1
          show Own _ _ _ _ _ _ _
          rw [h2]; exact h1
        clear ht
        go_wp2_with fail
        go_ret2
        refine ⟨_, _, rfl, ⟨_, _, _, _, ?_, ?_, Nat.le_refl _, Nat.le_succ _, hgs, Nat.le_refl _, .inl (Nat.le_refl _)⟩, hbl, ⟨_, _, _, rfl, by omega, by unfold maxLen; omega⟩⟩
        · exact HO.out
        · have := O2.out
          rw [HR.out] at this
          exact this
      · obtain ⟨j, rfl⟩ : ∃ j, k = j + 1 := ⟨k - 1, by omega⟩
        rw [show (((j + 1 : Nat) : Int) - 1) = (j : Int) by omega]
        have hlx := HCX.out.1
        obtain ⟨ad, hA, hab, hc⟩ := (hx.below (hbl.mono hB)).int (k := j) (by omega)
        obtain ⟨hs0, hs1⟩ := S.out.small hlx (by omega)
        have hxj := hlx xs[j] (List.getElem_mem _)
        have HN := hide (fun q r' => S.out.next (q := q) (r' := r') hlx (by omega : j < xs.length))
        have HQ := hide (fun q r' => S.out.q (q := q) (r' := r') hlx (by omega : j < xs.length))
        have hy' := hy.below (hbl.mono hB)
        generalize xs[j] = x at *
        obtain ⟨hx0, hx1⟩ := hxj
        have hsz := hbl.size
        -- the new rest
        obtain ⟨N, hN⟩ : ∃ N : Nat, (N : Int) = (R : Int) * 1000000000 + x := ⟨((R : Int) * 1000000000 + x).toNat, by omega⟩
        have hval : val (x :: limbs R) = N := by rw [val, val_limbs]; omega
        have hlim : Limbs (x :: limbs R) := Limbs.mk ⟨hx0, hx1⟩ (limbs_ok R)
        have hTr : trim (x :: limbs R) = limbs N := trim_eq hlim hval
        have hRl : (limbs R).length ≤ m := by
          have h1 := S.out.r1
          have h2 := val_lt hcy'
          rw [hm, pow_cast] at h2
          exact limbs_len.2 (Int.ofNat_lt.1 (Int.lt_trans h1 h2))
        obtain ⟨AR, cR, rfl, _, _, _⟩ := own_reads hrow
        have HNEW := hide (own_one wr 3 (.int .i64 x))
        have HRD := hide ((own_rd hrow).alloc (Nat.le_refl _) (.cells #[.int .i64 x] 3))
        have hr1 := S.out.r1
        clear hrow S hx hy hlx
        subst hA
        by_cases hNy : (N : Int) < val ys
        · have hcv : cmpV (N : Int) (val ys) < 0 := by rw [cmpV_lt hNy]; omega
          have HS := hide (HN.out 0 N (by rw [hN]; simp) (Int.natCast_nonneg _) hNy)
          clear HN HQ hs0 hs1 hN hNy hlim hval hr1
          go_wp2_with (at_builtin; refine wpList_append_rd Tryz.sliceInt rfl rfl _ _ rfl _ wr.heap.size _ 1 [.int .i64 x] HNEW.out rfl _ AR (limbs R).length cR (iv (limbs R)) rfl (iv_len _) HRD.out (iv_one _) (by unfold maxLen; omega) (by omega) (by simp) ?_; intro v' w2 hown2 hb2)
          obtain ⟨A2, c2, rfl, _, _, hr2⟩ := own_reads hown2
          obtain ⟨hn2, hc2, hcm2⟩ := own_nilcap hown2
          have hb2' : Below wr.heap.size wr w2 := ((Below.refl _ _).alloc (Nat.le_refl _) _).trans hb2
          have HT2 := hide (spec_Trim w2 w2.heap.size A2 (1 + (limbs R).length) c2 (x :: limbs R) (by rw [List.length_cons]; omega) hr2 hc2 hcm2)
          have HOW2 := hide (fun mm (hmm : mm ≤ 1 + (limbs R).length) ht => own_trimR (xs := x :: limbs R) (m := mm) hown2 hmm ht)
          have hs2 := hb2'.size
          have HB2 := hide hb2'
          have hbl2 := hbl.trans (hb2'.mono hsz)
          have hbk2 := hbk.below hb2' hgs
          clear hown2 hb2 hr2 hb2' hc2 hcm2
          go_wp2_with fail
          refine HT2.out.mono ?_
          rintro e w' ⟨mm, rfl, hmm, ht, rfl⟩
          have hmml : (limbs N).length = mm := by rw [← hTr, ht, List.length_take, List.length_cons]; omega
          have hO2 := HOW2.out mm hmm ht
          rw [hTr] at hO2
          have HC2 := hide (spec_Cmp w2 w2.heap.size A2 A' mm m c2 c' (limbs N) ys hmml hm (by have := own_rd (hmml ▸ hO2); exact this) ((hy'.below (HB2.out.mono (by omega))).wider (by omega)) (by omega) (by omega) (limbs_canon N) HCY.out)
          rw [val_limbs] at HC2
          generalize cmpV (N : Int) (val ys) = cv at *
          have HO2 := hide hO2
          clear HT2 HOW2 ht hO2
          go_wp2_with fail
          refine HC2.out.mono ?_
          rintro e w' ⟨rfl, dd, rfl⟩
          have hbl3 := below_drewN hbl2 dd
          have hbk3 := hbk2.below (below_drewN (Below.refl w2.heap.size w2) dd) (by omega)
          have hO3 : (w2.drewN dd).ownsRow wr.heap.size 3 1 (.slice A2 mm c2) (limbs N).length (iv (limbs N)) := own_below HO2.out (below_drewN (Below.refl w2.heap.size w2) dd) (fun g hg => (HO2.out.lt g hg).2)
          have hs3 : w2.heap.size ≤ (w2.drewN dd).heap.size := (below_drewN (Below.refl w2.heap.size w2) dd).size
          have hy3 := (hy'.below (HB2.out.mono (by omega))).below (below_drewN (Below.refl B w2) dd)
          generalize w2.drewN dd = w3 at *
          clear HC2 hbl2 hbk2 HO2
          go_wp2_with fail
          go_roundw
          case rel => exact ⟨j, N, 0 :: done, by omega, rfl, by rw [← zkeep]; exact hbk3, own_lower hO3 (by omega), HS.out, hbl3⟩
          case measure => simp [intOf]
        · have hcv : ¬ cmpV (N : Int) (val ys) < 0 := fun h => hNy (cmpV_negI.1 h)
          have hNlt : (N : Int) < 1000000000 * val ys := by omega
          have hde := Int.mul_ediv_add_emod (N : Int) (val ys)
          have hm0 := Int.emod_nonneg (N : Int) (show val ys ≠ 0 by omega)
          have hm1 := Int.emod_lt_of_pos (N : Int) hvp
          obtain ⟨q, hq⟩ : ∃ q, q = (N : Int) / val ys := ⟨_, rfl⟩
          obtain ⟨r', hr'⟩ : ∃ r' : Nat, (r' : Int) = (N : Int) % val ys := ⟨((N : Int) % val ys).toNat, by omega⟩
          rw [← hq, ← hr'] at hde
          rw [← hr'] at hm0 hm1
          have hqb := HQ.out q r' (by rw [← hN]; exact hde.symm) hm0 hm1
          have HS := hide (HN.out q r' (by rw [← hN]; exact hde.symm) hm0 hm1)
          obtain ⟨hq0, hq1⟩ := hqb
          obtain ⟨P, hP⟩ : ∃ P : Nat, (P : Int) = val ys * q := ⟨(val ys * q).toNat, by have := Int.mul_nonneg (Int.le_of_lt hvp) hq0; omega⟩
          have hrN : ((N : Int) - (P : Int)).toNat = r' := by omega
          have hPle : (P : Int) ≤ N := by omega
          clear HN HQ hs0 hs1 hlim hval hr1 hNy
          go_wp2_with (at_builtin; refine wpList_append_rd Tryz.sliceInt rfl rfl _ _ rfl _ wr.heap.size _ 1 [.int .i64 x] HNEW.out rfl _ AR (limbs R).length cR (iv (limbs R)) rfl (iv_len _) HRD.out (iv_one _) (by unfold maxLen; omega) (by omega) (by simp) ?_; intro v' w2 hown2 hb2)
          obtain ⟨A2, c2, rfl, _, _, hr2⟩ := own_reads hown2
          obtain ⟨hn2, hc2, hcm2⟩ := own_nilcap hown2
          have hb2' : Below wr.heap.size wr w2 := ((Below.refl _ _).alloc (Nat.le_refl _) _).trans hb2
          have HT2 := hide (spec_Trim w2 w2.heap.size A2 (1 + (limbs R).length) c2 (x :: limbs R) (by rw [List.length_cons]; omega) hr2 hc2 hcm2)
          have HOW2 := hide (fun mm (hmm : mm ≤ 1 + (limbs R).length) ht => own_trimR (xs := x :: limbs R) (m := mm) hown2 hmm ht)
          have hs2 := hb2'.size
          have HB2 := hide hb2'
          have hbl2 := hbl.trans (hb2'.mono hsz)
          have hbk2 := hbk.below hb2' hgs
          clear hown2 hb2 hr2 hb2' hc2 hcm2
          go_wp2_with fail
          refine HT2.out.mono ?_
          rintro e w' ⟨mm, rfl, hmm, ht, rfl⟩
          have hmml : (limbs N).length = mm := by rw [← hTr, ht, List.length_take, List.length_cons]; omega
          have hO2 := HOW2.out mm hmm ht
          rw [hTr] at hO2
          have HC2 := hide (spec_Cmp w2 w2.heap.size A2 A' mm m c2 c' (limbs N) ys hmml hm (by have := own_rd (hmml ▸ hO2); exact this) ((hy'.below (HB2.out.mono (by omega))).wider (by omega)) (by omega) (by omega) (limbs_canon N) HCY.out)
          rw [val_limbs] at HC2
          generalize cmpV (N : Int) (val ys) = cv at *
          have HO2 := hide hO2
          clear HT2 HOW2 ht hO2
          go_wp2_with fail
          refine HC2.out.mono ?_
          rintro e w' ⟨rfl, dd, rfl⟩
          have hbl3 := below_drewN hbl2 dd
          have hbk3 := hbk2.below (below_drewN (Below.refl w2.heap.size w2) dd) (by omega)
          have hO3 : (w2.drewN dd).ownsRow wr.heap.size 3 1 (.slice A2 mm c2) (limbs N).length (iv (limbs N)) := own_below HO2.out (below_drewN (Below.refl w2.heap.size w2) dd) (fun g hg => (HO2.out.lt g hg).2)
          have hs3 : w2.heap.size ≤ (w2.drewN dd).heap.size := (below_drewN (Below.refl w2.heap.size w2) dd).size
          have hy3 := (hy'.below (HB2.out.mono (by omega))).below (below_drewN (Below.refl B w2) dd)
          generalize w2.drewN dd = w3 at *
          clear HC2 hbl2 hbk2 HO2
          have HD := hide (spec_Digit w3 w3.heap.size (Nat.le_refl _) A2 A' mm m c2 c' (limbs N) ys hmml hm (by have := own_rd (hmml ▸ hO3); exact this) (hy3.wider (by omega)) (by omega) (by omega) (limbs_canon N) HCY.out hvp (by rw [val_limbs]; exact hNlt))
          rw [val_limbs, ← hq] at HD
          have HO3 := hide hO3
          have HP := hide hP
          clear hq hde hP hO3
          go_wp2_with fail
          refine HD.out.mono ?_
          rintro e w4 ⟨rfl, hb4⟩
          have hs4 := hb4.size
          have hbl4 := hbl3.trans (hb4.mono (by omega))
          have hO4 := own_below HO3.out hb4 (fun g hg => (HO3.out.lt g hg).2)
          have hy4 := hy3.below (hb4.mono (by omega))
          have hbk4 := hbk3.below hb4 (by omega)
          have hj1 : j < (List.replicate (j + 1) 0 ++ done).length := by simp; omega
          have hcell := hbk4.cell hj1
          have hfz := hbk4.frozen j
          have HB5 := hide (hbk4.set j q)
          rw [zset] at HB5
          have ha5 : Aside w.heap.size (w.heap.size + 1) w4 (w4.setCell ⟨w.heap.size, j, none⟩ (.int .i64 q)) := (Aside.refl _).setCell (a := ⟨w.heap.size, j, none⟩) (Nat.le_refl _) (Nat.lt_succ_self _) (.int .i64 q)
          have HBL5 := hide (hbl4.trans (ha5.below (Nat.le_refl _) (by omega)))
          have hs5 := ha5.size
          have HO5 := hide (own_aside hO4 ha5 (by omega))
          have HY5 := hide (hy4.aside ha5 (by omega) (by intro ad' e; rcases hy4 with h' | ⟨ad2, e2, hb2, _⟩; (exfalso; rw [List.map_eq_nil_iff.1 h'] at hm; simp at hm; omega); (rw [e] at e2; injection e2 with e2; subst e2; omega)))
          generalize (List.replicate (j + 1) 0 ++ done)[j] = z at *
          clear hbk4 hbk3 hbl3 hbl4 hO4 hy4 hy3 hy' hbk hbl ha5 hj1
          go_wp2_with fail
          generalize w4.setCell ⟨w.heap.size, j, none⟩ (.int .i64 q) = w5 at *
          have HNO := hide (spec_NatOf w5 w5.heap.size (Nat.le_refl _) q (WalkArith.wf_i64 ⟨by omega, by omega⟩))
          have hvq : val (limbs q.toNat) = q := by rw [val_limbs]; omega
          have hql := (limbs_len (n := q.toNat) (k := 3)).2 (by omega)
          refine HNO.out.mono ?_
          rintro e w6 ⟨v6, rfl, o6, hb6⟩
          have hs6 := hb6.size
          obtain ⟨A6, c6, rfl, _, _, hr6⟩ := own_reads o6
          have hMul := spec_Mul w6 w6.heap.size (Nat.le_refl _) A' A6 m (limbs q.toNat).length c' c6 ys (limbs q.toNat) hm rfl ((HY5.out.below (hb6.mono (by omega))).wider (by omega)) hr6 (by omega) (by omega) HCY.out.1 (limbs_ok _)
          rw [hvq, ← HP.out, Int.toNat_natCast] at hMul
          have HMul := hide hMul
          have HB6 := hide (HBL5.out.trans (hb6.mono (by omega)))
          have HBK6 := hide (HB5.out.below hb6 (by omega))
          have HO6 := hide (own_below HO5.out hb6 (fun g hg => (HO5.out.lt g hg).2))
          have hw56 : w.heap.size < w6.heap.size := by omega
          clear hMul hr6 o6 hb6 HNO
          go_wp2_with fail
          refine HMul.out.mono ?_
          rintro e w7 ⟨v7, rfl, o7, hb7⟩
          have hs7 := hb7.size
          obtain ⟨A7, c7, rfl, _, _, hr7⟩ := own_reads o7
          have hO7 := own_below HO6.out hb7 (fun g hg => (HO6.out.lt g hg).2)
          have hSub := spec_Sub w7 w7.heap.size (Nat.le_refl _) A2 A7 mm (limbs P).length c2 c7 (limbs N) (limbs P) hmml rfl (by have := own_rd (hmml ▸ hO7); exact this) hr7 (by omega) (limbs_canon _) (limbs_canon _) (by rw [val_limbs, val_limbs]; exact hPle)
          rw [val_limbs, val_limbs, hrN] at hSub
          have HSub := hide hSub
          have HB7 := hide (HB6.out.trans (hb7.mono (by omega)))
          have HBK7 := hide (HBK6.out.below hb7 (by omega))
          clear hSub hr7 o7 hb7 HMul hO7
          go_wp2_with fail
          refine HSub.out.mono ?_
          rintro e w8 ⟨v8, rfl, o8, hb8⟩
          have HB8 := hide (HB7.out.trans (hb8.mono (by omega)))
          have HBK8 := hide (HBK7.out.below hb8 (by omega))
          have HO8 := hide (own_lower (base' := w.heap.size + 1) o8 (by omega))
          clear o8 hb8 HSub
          go_wp2_with fail
          go_roundw
          case rel => exact ⟨j, r', q :: done, by omega, rfl, HBK8.out, HO8.out, HS.out, HB8.out⟩
          case measure => simp [intOf]
theorem spec_Div (w : World) (B : Nat) (hB : B ≤ w.heap.size) (A A' : Option Addr) (n m c c' : Nat) (xs ys : List Int) (hn : xs.length = n) (hm : ys.length = m) (hx : Rd w B A (iv xs)) (hy : Rd w B A' (iv ys)) (hl : n ≤ 100000) (hl' : m ≤ 100000) (hcx : Canon xs) (hcy : Canon ys) (h0 : 0 < m) :
    Calls Tryz.prog 57 #[.slice A n c, .slice A' m c'] w fun e w' => ∃ v1 v2, e = .returned (.tuple #[v1, v2]) ∧ Two w w' 3 v1 (limbs (val xs / val ys).toNat) v2 (limbs (val xs % val ys).toNat) ∧ Below w.heap.size w w' :=
  (spec_DivC w B hB A A' n m c c' xs ys hn hm hx hy hl hl' hcx hcy h0).mono fun e w' ⟨v1, v2, h1, h2, h3, _⟩ => ⟨v1, v2, h1, h2, h3⟩
end Go.Proofs.YtdcceppednngjaaGreat

/-
  The reference's natural numbers: contracts (9): l02Plain, l02Gcd, NatGcd.
-/


namespace Go.Proofs.YtdcceppednngjaaGreat
open Go.RowKit
set_option linter.unusedVariables false

set_option maxHeartbeats 800000 in
theorem spec_Plain (w : World) (x y : Nat) (hx : x ≤ 9223372036854775807) (hy : y ≤ 9223372036854775807) :
    Calls Tryz.prog 74 #[.int .i64 x, .int .i64 y] w fun e w' => ∃ v, e = .returned v ∧ w'.ownsRow w.heap.size 3 1 v (limbs (Nat.gcd x y)).length (iv (limbs (Nat.gcd x y))) ∧ Below w.heap.size w w' := by
  go_enter Tryz.func74, Tryz.ntmps74
  go_wp2_with fail
  go_loop [0, 1] (fun a b => ∃ p q : Nat, a = .int .i64 p ∧ b = .int .i64 q ∧ p ≤ 9223372036854775807 ∧ q ≤ 9223372036854775807 ∧ Hid (Nat.gcd p q = Nat.gcd x y)) (fun _ b => (intOf b).toNat)
  case atStart => exact ⟨x, y, rfl, rfl, hx, hy, rfl⟩
  case round =>
    obtain ⟨p, q, rfl, rfl, hp, hq, H⟩ := hrel
    by_cases h0 : q = 0
    · subst h0
      have HG : Hid (p = Nat.gcd x y) := by have := H.out; rwa [Nat.gcd_zero_right] at this
      have HO := hide (spec_NatOf w w.heap.size (Nat.le_refl _) (p : Int) (WalkArith.wf_i64 ⟨by omega, by omega⟩))
      clear H
      go_wp2_with fail
      refine HO.out.mono ?_
      rintro e w1 ⟨v, rfl, o, hb⟩
      rw [Int.toNat_natCast, HG.out] at o
      have HO1 := hide o
      clear o
      go_wp2_with fail
      go_ret
      exact ⟨_, rfl, HO1.out, hb⟩
    · have hm : Int.tmod (p : Int) (q : Int) = ((p % q : Nat) : Int) := by rw [Int.tmod_eq_emod_of_nonneg (by omega)]; rfl
      have hl : p % q < q := Nat.mod_lt _ (by omega)
      have HG : Hid (Nat.gcd q (p % q) = Nat.gcd x y) := by
        show _ = _
        rw [← H.out, Nat.gcd_comm p q, Nat.gcd_rec q p, Nat.gcd_comm]
      have hqz : ((q : Int) == 0) = false := by simp; omega
      clear H
      go_wp2_with fail
      go_round
      case rel => exact ⟨q, p % q, rfl, by simp, hq, by omega, HG⟩
      case measure => simp [intOf]; omega
set_option maxRecDepth 100000 in
set_option maxHeartbeats 3200000 in
theorem spec_Gcd (w : World) (B : Nat) (hB : B ≤ w.heap.size) (A A' : Option Addr) (n m c c' : Nat) (xs ys : List Int) (hn : xs.length = n) (hm : ys.length = m) (hx : Rd w B A (iv xs)) (hy : Rd w B A' (iv ys)) (hbx : natB xs = true) (hby : natB ys = true) :
    Calls Tryz.prog 54 #[.slice A n c, .slice A' m c'] w fun e w' => ∃ v, e = .returned v ∧ Own w' w.heap.size w'.heap.size 3 v (limbs (Nat.gcd (natV xs) (natV ys))).length (iv (limbs (Nat.gcd (natV xs) (natV ys)))) ∧ Below w.heap.size w w' := by
  have hX := limbs_natV hbx
  have hY := limbs_natV hby
  have hX6 := natV_lt60 hbx
  have hY6 := natV_lt60 hby
  generalize natV xs = X0 at *
  generalize natV ys = Y0 at *
  subst hX hY
  obtain ⟨G, hG⟩ : ∃ G, G = Nat.gcd X0 Y0 := ⟨_, rfl⟩
  rw [← hG]
  have hxl := limbs_len.2 hX6
  have hyl := limbs_len.2 hY6
  have hNEW := World.ownsRow_made (base := w.heap.size) (e := 3) (size := 1) w #[] 0 (Nat.le_refl _) (by unfold maxLen; omega) rfl
  have hbA := (Below.refl w.heap.size w).alloc (Nat.le_refl _) (.cells #[] 3)
  have HRX := hide (hx.below (hbA.mono hB))
  have HRY := hide (hy.below (hbA.mono hB))
  have HN1 := hide hNEW
  have HBA := hide hbA
  subst hn hm
  clear hx hNEW hbA
  go_enter Tryz.func54, Tryz.ntmps54
  go_wp2_with (at_builtin; first
    | (refine wpList_append_rd Tryz.sliceInt rfl rfl _ _ rfl _ w.heap.size _ 0 [] HN1.out rfl B A (limbs X0).length c (iv (limbs X0)) rfl (iv_len _) HRX.out (iv_one _) (by unfold maxLen; omega) (by omega) (by simp) ?_; intro v1 w1 hown1 hb1; have hs1 := hb1.size; have HN2 := hide (World.ownsRow_made (base := w1.heap.size) (e := 3) (size := 1) w1 #[] 0 (Nat.le_refl _) (by unfold maxLen; omega) rfl); have HRY2 := hide ((HRY.out.below (hb1.mono hB)).alloc (Nat.le_trans hB (Nat.le_trans HBA.out.size hs1)) (.cells #[] 3)))
    | (refine wpList_append_rd Tryz.sliceInt rfl rfl _ _ rfl _ w1.heap.size _ 0 [] HN2.out rfl B A' (limbs Y0).length c' (iv (limbs Y0)) rfl (iv_len _) HRY2.out (iv_one _) (by unfold maxLen; omega) (by omega) (by simp) ?_; intro v2 w2 hown2 hb2))
  have hbw1 : Below w.heap.size w w1 := HBA.out.trans hb1
  have hb2' : Below w1.heap.size w1 w2 := ((Below.refl _ _).alloc (Nat.le_refl _) _).trans hb2
  have ho1 : Own w2 w.heap.size w2.heap.size 3 v1 (limbs X0).length (iv (limbs X0)) := by
    have h1 : w1.ownsRow w.heap.size 3 1 v1 (limbs X0).length (iv (limbs X0)) := by simpa using hown1
    exact (Own.of_row h1 (Nat.le_refl _)).below hb2' (Nat.le_refl _) |>.wider (Nat.le_refl _) hb2'.size
  have ho2 : Own w2 w.heap.size w2.heap.size 3 v2 (limbs Y0).length (iv (limbs Y0)) := by
    have h1 : w2.ownsRow w1.heap.size 3 1 v2 (limbs Y0).length (iv (limbs Y0)) := by simpa using hown2
    exact (Own.of_row h1 (Nat.le_refl _)).wider hbw1.size (Nat.le_refl _)
  have hbw2 := hbw1.trans (hb2'.mono hbw1.size)
  clear hown1 hown2 hb1 hb2 HN1 HN2 HRX HRY HRY2 HBA hbw1 hb2' hy hs1
  go_loopw [5, 6] (fun a b wr => ∃ X Y : Nat, X < 1000000000 ^ 60 ∧ Y < 1000000000 ^ 60 ∧ Own wr w.heap.size wr.heap.size 3 a (limbs X).length (iv (limbs X)) ∧ Own wr w.heap.size wr.heap.size 3 b (limbs Y).length (iv (limbs Y)) ∧ Hid (Nat.gcd X Y = G) ∧ Below w.heap.size w wr) (fun _ b wr => numOf w.heap.size 3 b wr)
  case atStart => exact ⟨X0, Y0, hX6, hY6, ho1, ho2, hG.symm, hbw2⟩
  case round =>
    clear hX6 hY6 ho1 ho2 hG hbw2 hbx hby hxl hyl
    obtain ⟨X, Y, hX6, hY6, ho1, ho2, HG, hbl⟩ := hrel
    obtain ⟨A1, c1, rfl⟩ := ho1.form
    obtain ⟨A2, c2, rfl⟩ := ho2.form
    have hxl := limbs_len.2 hX6
    have hyl := limbs_len.2 hY6
    have hbs := hbl.size
    by_cases h0 : Y = 0
    · subst h0
      have HE : Hid (X = G) := by have := HG.out; rwa [Nat.gcd_zero_right] at this
      have hl0 : (limbs 0).length = 0 := by rw [limbs_zero]; rfl
      have HO1 := hide ho1
      clear HG ho1 ho2
      go_wp2_with fail
      go_ret
      exact ⟨_, rfl, by rw [← HE.out]; exact HO1.out, hbl⟩
    · have hy0 : 0 < (limbs Y).length := List.length_pos_iff.2 (fun e => h0 (limbs_nil.1 e))
      by_cases hs : (limbs X).length < 3 ∧ (limbs Y).length < 3
      · obtain ⟨hsx, hsy⟩ := hs
        obtain ⟨a1, a2, a3⟩ := natInt_small hsx
        obtain ⟨b1, b2, b3⟩ := natInt_small hsy
        have HT1 := spec_NatToInt wr wr.heap.size (Nat.le_refl _) A1 (limbs X).length c1 (limbs X) (RdI.of_own ho1 (by omega) (limbs_ok X))
        rw [a1, a2] at HT1
        have HTX := hide HT1
        have HT2 := fun (w3 : World) (hb : Below wr.heap.size wr w3) => spec_NatToInt w3 wr.heap.size hb.size A2 (limbs Y).length c2 (limbs Y) ((RdI.of_own ho2 (by omega) (limbs_ok Y)).below hb)
        rw [b1, b2] at HT2
        have HTY := hide HT2
        have HP := hide (fun w3 : World => spec_Plain w3 X Y (by omega) (by omega))
        have HGG := hide HG.out
        clear HT1 HT2 ho1 ho2 HG a1 a2 b1 b2
        go_wp2_with fail
        refine HTX.out.mono ?_
        rintro e w3 ⟨rfl, hb3⟩
        have HB3 := hide hb3
        clear hb3
        go_wp2_with fail
        refine (HTY.out w3 HB3.out).mono ?_
        rintro e w4 ⟨rfl, hb4⟩
        have HB4 := hide hb4
        clear hb4
        go_wp2_with fail
        refine (HP.out w4).mono ?_
        rintro e w5 ⟨v, rfl, o5, hb5⟩
        rw [HGG.out] at o5
        have hs5 := hb5.size
        have hs4 := HB4.out.size
        have hs3 := HB3.out.size
        have HB5 := hide (hbl.trans ((HB3.out.trans (HB4.out.mono hs3)).mono hbs |>.trans (hb5.mono (by omega))))
        have HO5 := hide ((Own.of o5).wider (lo' := w.heap.size) (hi' := w5.heap.size) (by omega) (Nat.le_refl _))
        clear o5 hb5 HB3 HB4 HTX HTY HP
        go_wp2_with fail
        go_ret
        exact ⟨_, rfl, HO5.out, HB5.out⟩
      · have HD := hide (spec_Div wr wr.heap.size (Nat.le_refl _) A1 A2 (limbs X).length (limbs Y).length c1 c2 (limbs X) (limbs Y) rfl rfl ho1.rd ho2.rd (by omega) (by omega) (limbs_canon _) (limbs_canon _) hy0)
        have hr : (val (limbs X) % val (limbs Y)).toNat = X % Y := by rw [val_limbs, val_limbs, rem_nat]
        have hm6 : X % Y < 1000000000 ^ 60 := Nat.lt_of_le_of_lt (Nat.mod_le _ _) hX6
        have HG2 : Hid (Nat.gcd Y (X % Y) = G) := by
          show _ = _
          rw [← HG.out, Nat.gcd_comm X Y, Nat.gcd_rec Y X, Nat.gcd_comm]
        have HO2 := hide ho2
        have HH := hide hr
        clear HG ho1 ho2
        by_cases hsx : (limbs X).length < 3
        · have hsy : ¬ (limbs Y).length < 3 := fun h => hs ⟨hsx, h⟩
          clear hs
          go_wp2_with fail
          refine HD.out.mono ?_
          rintro e w3 ⟨v1, v2, rfl, ⟨l1, h1, l2, h2, _, ob, _, hl2, _, hh2, _⟩, hb3⟩
          rw [hr] at ob
          have hbl3 := hbl.trans (hb3.mono hbs)
          have HO3 := hide ((HO2.out.below hb3 (Nat.le_refl _)).wider (Nat.le_refl _) hb3.size)
          have HOB := hide (ob.wider (by omega : w.heap.size ≤ l2) hh2)
          have hms : numOf w.heap.size 3 v2 w3 < numOf w.heap.size 3 (.slice A2 (limbs Y).length c2) wr := by
            rw [numOf_eq HOB.out, numOf_eq HO2.out]; exact Nat.mod_lt _ (by omega)
          have HMS := hide hms
          clear ob hb3 hms
          go_wp2_with fail
          go_roundw
          case rel => exact ⟨Y, X % Y, hY6, hm6, HO3.out, HOB.out, HG2.out, hbl3⟩
          case measure => exact HMS.out
        · clear hs
          go_wp2_with fail
          refine HD.out.mono ?_
          rintro e w3 ⟨v1, v2, rfl, ⟨l1, h1, l2, h2, _, ob, _, hl2, _, hh2, _⟩, hb3⟩
          rw [hr] at ob
          have hbl3 := hbl.trans (hb3.mono hbs)
          have HO3 := hide ((HO2.out.below hb3 (Nat.le_refl _)).wider (Nat.le_refl _) hb3.size)
          have HOB := hide (ob.wider (by omega : w.heap.size ≤ l2) hh2)
          have hms : numOf w.heap.size 3 v2 w3 < numOf w.heap.size 3 (.slice A2 (limbs Y).length c2) wr := by
            rw [numOf_eq HOB.out, numOf_eq HO2.out]; exact Nat.mod_lt _ (by omega)
          have HMS := hide hms
          clear ob hb3 hms
          go_wp2_with fail
          go_roundw
          case rel => exact ⟨Y, X % Y, hY6, hm6, HO3.out, HOB.out, HG2.out, hbl3⟩
          case measure => exact HMS.out
end Go.Proofs.YtdcceppednngjaaGreat
