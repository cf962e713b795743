/-
  The program's natural numbers: contracts (2): addTimes.
-/
import Derived.Test.YtapjblghnflekaaDoorNatI
namespace Go.Proofs.YtapjblghnflekaaDoor
open Go.RowKit
set_option linter.unusedVariables false

theorem Rd.aside {w w' : World} {B lo hi : Nat} {A : Option Addr} {xs : List Value} (h : Rd w B A xs) (ha : Aside lo hi w w') (hB : B ≤ w.heap.size) (hs : ∀ ad, A = some ad → ad.block < lo ∨ hi ≤ ad.block) : Rd w' B A xs := by
  rcases h with e | ⟨ad, e, hb, hc⟩
  · exact .inl e
  · refine .inr ⟨ad, e, hb, fun k u hu => ?_⟩
    rw [World.cell?_of_block (w := w) (w' := w') (ha.block _ (by rw [add_block]; omega) (by rw [add_block]; exact hs ad e))]
    exact hc k u hu
theorem mulb {f y : Int} (hf : -1000000000 ≤ f ∧ f ≤ 1000000000) (hy : 0 ≤ y ∧ y ≤ 999999999) : -999999999000000000 ≤ f * y ∧ f * y ≤ 999999999000000000 := by
  have h1 : -1000000000 * y ≤ f * y := Int.mul_le_mul_of_nonneg_right hf.1 hy.1
  have h2 : f * y ≤ 1000000000 * y := Int.mul_le_mul_of_nonneg_right hf.2 hy.1
  omega
/-- the low limbs done, and the carry behind them -/
def AddI (mid ys : List Int) (f : Int) (done : List Int) (k : Nat) (q : Int) : Prop := done.length = k ∧ Limbs done ∧ val done + 1000000000 ^ k * q = val (mid.take k) + f * val (ys.take k)
theorem AddI.next {mid ys done : List Int} {f q d y s : Int} {k : Nat} (h : AddI mid ys f done k q) (hd : mid.getD k 0 = d) (hy : ys.getD k 0 = y) (hs : s = d + f * y + q) : AddI mid ys f (done ++ [s % 1000000000]) (k + 1) (s / 1000000000) := by
  obtain ⟨h1, h2, h3⟩ := h
  refine ⟨by rw [List.length_append, h1]; rfl, h2.append (Limbs.mk (by omega) Limbs.nil), ?_⟩
  have := add_step (P := 1000000000 ^ k) (x := d) (y := f * y) (N := s) h3 (by omega)
  rw [val_snoc, h1, val_take_step, val_take_step, hd, hy, Int.pow_succ, Int.mul_add, Int.mul_left_comm f]
  exact this
theorem carry_b {d p q : Int} (hd : 0 ≤ d ∧ d ≤ 999999999) (hp : -999999999000000000 ≤ p ∧ p ≤ 999999999000000000) (hq : -1000000000 ≤ q ∧ q ≤ 1000000000) : -1000000000 ≤ (d + p + q) / 1000000000 ∧ (d + p + q) / 1000000000 ≤ 1000000000 := by omega
theorem blk_len (pre done mid post : List Int) (k : Nat) (h : done.length = k) (hk : k ≤ mid.length) : (pre ++ (done ++ mid.drop k) ++ post).length = pre.length + mid.length + post.length := by
  simp only [List.length_append, List.length_drop]; omega
theorem blk_at (pre done mid post : List Int) (k : Nat) (h : done.length = k) (hk : k < mid.length) : (pre ++ (done ++ mid.drop k) ++ post)[pre.length + k]'(by rw [blk_len pre done mid post k h (by omega)]; omega) = mid[k] := by
  rw [List.getElem_append_left (by simp only [List.length_append, List.length_drop]; omega), List.getElem_append_right (by omega), List.getElem_append_right (by omega), List.getElem_drop]
  congr 1; omega
theorem blk_set (pre done mid post : List Int) (k : Nat) (d : Int) (h : done.length = k) (hk : k < mid.length) : (pre ++ (done ++ mid.drop k) ++ post).set (pre.length + k) d = pre ++ ((done ++ [d]) ++ mid.drop (k + 1)) ++ post := by
  rw [List.set_append_left _ _ (by simp only [List.length_append, List.length_drop]; omega), List.set_append_right _ _ (by omega), List.set_append_right _ _ (by omega), List.drop_eq_getElem_cons hk]
  rw [show pre.length + k - pre.length - done.length = 0 by omega, List.set_cons_zero]
  simp
/-- the row and the carry, told for a round of addTimes -/
structure AddR (w wr : World) (g : Nat) (E : TypeId) (pre mid post done : List Int) (k : Nat) : Prop where
  blk : Blk wr g E (pre ++ (done ++ mid.drop k) ++ post)
  aside : Aside g (g + 1) w wr
  len : done.length = k
theorem AddR.reads {w wr : World} {g : Nat} {E : TypeId} {pre mid post done : List Int} {k : Nat} (h : AddR w wr g E pre mid post done k) (hk : k < mid.length) : wr.cell? ⟨g, pre.length + k, none⟩ = some (.int .i64 mid[k]) := by
  rw [h.blk.cell (j := pre.length + k) (by rw [blk_len _ _ _ _ _ h.len (by omega)]; omega), blk_at _ _ _ _ _ h.len hk]
theorem AddR.stored {w wr : World} {g : Nat} {E : TypeId} {pre mid post done : List Int} {k : Nat} (h : AddR w wr g E pre mid post done k) (hk : k < mid.length) (d : Int) : AddR w (wr.setCell ⟨g, pre.length + k, none⟩ (.int .i64 d)) g E pre mid post (done ++ [d]) (k + 1) :=
  ⟨by rw [← blk_set _ _ _ _ _ _ h.len hk]; exact h.blk.set _ _, h.aside.setCell (Nat.le_refl _) (Nat.lt_succ_self _) _, by rw [List.length_append, h.len]; rfl⟩

set_option maxHeartbeats 1600000 in
theorem impl_addTimes (w : World) (g off n cw : Nat) (B m c : Nat) (A : Option Addr) (pre mid post ys : List Int) (f : Int)
    (hblk : Blk w g 3 (pre ++ mid ++ post)) (hoff : pre.length = off) (hn : mid.length = n) (hm : ys.length = m) (hmn : m < n) (hbig : off + n ≤ 1000000)
    (hlm : Limbs (mid.take (n - 1))) (hlast : ∀ d, mid.getLast? = some d → -1000000000000000000 ≤ d ∧ d ≤ 1000000000000000000)
    (hly : Limbs ys) (hf : -1000000000 ≤ f ∧ f ≤ 1000000000) (hy : Rd w B A (iv ys)) (hB : B ≤ w.heap.size) (hsep : ys ≠ [] → ∀ ad, A = some ad → ad.block < g ∨ g + 1 ≤ ad.block) :
    Calls Tryd.prog 41 #[.slice (some ⟨g, off, none⟩) n cw, .slice A m c, .int .i64 f] w fun e w' => ∃ v out, e = .returned v ∧ Blk w' g 3 (pre ++ out ++ post) ∧ out.length = n ∧ Limbs (out.take (n - 1)) ∧ val out = val mid + f * val ys ∧ Aside g (g + 1) w w' := by
  subst hoff
  have hgs := hblk.lt
  have hR0 : AddR w w g 3 pre mid post [] 0 := ⟨by simpa using hblk, Aside.refl _, rfl⟩
  clear hblk
  go_enter Tryd.func41, Tryd.ntmps41
  go_wp2_with fail
  go_loopw [6, 13] (fun cq i wr => ∃ (k : Nat) (q : Int) (done : List Int), k ≤ m ∧ i = .int .i64 k ∧ cq = .int .i64 q ∧ -1000000000 ≤ q ∧ q ≤ 1000000000 ∧ AddR w wr g 3 pre mid post done k ∧ Hid (AddI mid ys f done k q)) (fun _ i _ => m - (intOf i).toNat)
  case atStart => exact ⟨0, 0, [], Nat.zero_le _, rfl, rfl, by omega, by omega, hR0, ⟨rfl, Limbs.nil, by simp [val]⟩⟩
  case round =>
    clear hR0
    obtain ⟨k, q, done, hk, rfl, rfl, hq0, hq1, R, S⟩ := hrel
    by_cases hlt : k < m
    · have hry := hy.aside R.aside hB (hsep (fun e => by subst e; simp at hm; omega))
      obtain ⟨ad, hA, hb1, hc1⟩ := hry.int (k := k) (by omega)
      have hyb := hly ys[k] (List.getElem_mem _)
      have gy := getD_in (l := ys) (k := k) (by omega)
      have hcm := R.reads (k := k) (by omega)
      have gm := getD_in (l := mid) (k := k) (by omega)
      have hdb := hlm mid[k] (List.mem_take_iff_getElem.2 ⟨k, by omega, rfl⟩)
      have hfz := R.blk.frozen (pre.length + k)
      have hp := mulb hf hyb
      have hcb := carry_b hdb hp ⟨hq0, hq1⟩
      have HS := hide (S.out.next gm gy rfl)
      have HR := hide (fun d => R.stored (k := k) (by omega) d)
      have hsp := impl_splitSum wr (mid[k] + f * ys[k] + q) (by omega) (by omega)
      generalize mid[k] = d at *
      generalize ys[k] = y at *
      obtain ⟨hp1, hp2⟩ := hp
      obtain ⟨hd1, hd2⟩ := hdb
      have HC := hide hcb
      have HP := hide hsp
      clear gm gy S R hry hy hly hlm hlast hcb hyb hsp
      subst hA
      go_wp2_with fail
      refine HP.out.mono ?_
      rintro e w' ⟨rfl, rfl⟩
      go_wp2_with fail
      go_roundw
      case rel => exact ⟨k + 1, _, _, by omega, by go_num, rfl, HC.out.1, HC.out.2, HR.out _, HS.out⟩
      case measure => simp [intOf]; omega
    · obtain rfl : k = m := by omega
      clear hy hly hsep
      have R0 := R
      have S0 := S
      clear R S
      go_wp2_with fail
      go_loopw [6, 10] (fun cq i wr => ∃ (j : Nat) (q : Int) (done : List Int), k ≤ j ∧ j ≤ n - 1 ∧ i = .int .i64 j ∧ cq = .int .i64 q ∧ -1000000000 ≤ q ∧ q ≤ 1000000000 ∧ AddR w wr g 3 pre mid post done j ∧ Hid (AddI mid ys f done j q)) (fun _ i _ => n - (intOf i).toNat)
      case atStart => exact ⟨k, q, done, Nat.le_refl _, by omega, rfl, rfl, hq0, hq1, R0, S0⟩
      case round =>
        clear R0 S0 hq0 hq1
        obtain ⟨j, q, done, hkj, hj, rfl, rfl, hq0, hq1, R, S⟩ := hrel
        by_cases hlt : j < n - 1
        · have hcm := R.reads (k := j) (by omega)
          have gm := getD_in (l := mid) (k := j) (by omega)
          have gy := getD_out (l := ys) (k := j) (by omega)
          obtain ⟨hd1, hd2⟩ := hlm mid[j] (List.mem_take_iff_getElem.2 ⟨j, by omega, rfl⟩)
          have hfz := R.blk.frozen (pre.length + j)
          have hcb : -1000000000 ≤ (mid[j] + q) / 1000000000 ∧ (mid[j] + q) / 1000000000 ≤ 1000000000 := by omega
          have HS := hide (S.out.next gm gy (s := mid[j] + q) (by omega))
          have HR := hide (fun d => R.stored (k := j) (by omega) d)
          have HP := hide (impl_splitSum wr (mid[j] + q) (by omega) (by omega))
          have HC := hide hcb
          generalize mid[j] = d at *
          clear gm gy S R hlm hlast hcb
          go_wp2_with fail
          refine HP.out.mono ?_
          rintro e w' ⟨rfl, rfl⟩
          go_wp2_with fail
          go_roundw
          case rel => exact ⟨j + 1, _, _, by omega, by omega, by go_num, rfl, HC.out.1, HC.out.2, HR.out _, HS.out⟩
          case measure => simp [intOf]; omega
        · obtain rfl : j = n - 1 := by omega
          have hcm := R.reads (k := n - 1) (by omega)
          have hfz := R.blk.frozen (pre.length + (n - 1))
          obtain ⟨hl1, hl2⟩ := hlast mid[n - 1] (by rw [List.getLast?_eq_getElem?, List.getElem?_eq_getElem (by omega)]; congr 2; omega)
          have HR := hide (fun d => R.stored (k := n - 1) (by omega) d)
          obtain ⟨s1, s2, s3⟩ := S.out
          have HV : Hid (val (done ++ [mid[n - 1] + q]) = val mid + f * val ys) := by
            show _ = _
            have e1 : val mid = val (mid.take (n - 1)) + 1000000000 ^ (n - 1) * mid[n - 1] := by
              have := val_take_step mid (n - 1)
              rw [show n - 1 + 1 = n by omega, List.take_of_length_le (l := mid) (by omega), getD_in (by omega)] at this
              exact this
            rw [List.take_of_length_le (l := ys) (by omega)] at s3
            rw [val_snoc, s1, Int.mul_add, e1]
            omega
          have HL : Hid (Limbs ((done ++ [mid[n - 1] + q]).take (n - 1))) := by
            show Limbs _
            rw [List.take_append_of_le_length (by omega), List.take_of_length_le (by omega)]; exact s2
          have HK : Hid ((done ++ [mid[n - 1] + q]).length = n) := by show _ = _; rw [List.length_append, s1]; simp; omega
          have HD : Hid (mid.drop (n - 1 + 1) = []) := by show _ = _; exact List.drop_of_length_le (by omega)
          generalize mid[n - 1] = d at *
          clear s1 s2 s3 S R hlm hlast
          go_wp2_with fail
          go_end0
          have R2 := HR.out (d + q)
          refine ⟨_, _, rfl, ?_, HK.out, HL.out, HV.out, R2.aside⟩
          have := R2.blk
          rwa [HD.out, List.append_nil] at this
end Go.Proofs.YtapjblghnflekaaDoor
