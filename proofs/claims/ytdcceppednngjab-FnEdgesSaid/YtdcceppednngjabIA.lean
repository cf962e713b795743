/-
  The texts NatI, NatI2, NatI3, NatI4, NatI4x, NatI5, put together; each has its own heading below. No condition of ours.
-/
import Derived.Test.YtdcceppednngjabPB
import Derived.Laws.CopyOwn
/-
  The program's natural numbers: contracts (1): splitSum, cutZeros, fitting, widened.
-/


namespace Go.Proofs.Ytdcceppednngjab
open Go.RowKit
set_option linter.unusedVariables false

theorem ret_ii {a b c d : Int} (h1 : a = b) (h2 : c = d) : Ending.returned (.tuple #[.int .i64 a, .int .i64 c]) = .returned (.tuple #[.int .i64 b, .int .i64 d]) := by rw [h1, h2]
theorem tdiv_neg_nat (t : Nat) : Int.tdiv (-(t : Int)) 1000000000 = -((t / 1000000000 : Nat) : Int) := by
  rw [Int.neg_tdiv]; rfl
set_option maxHeartbeats 400000 in
theorem impl_splitSum (w : World) (s : Int) (h1 : -4000000000000000000 ≤ s) (h2 : s ≤ 4000000000000000000) :
    Calls Try.prog 73 #[.int .i64 s] w fun e w' => e = .returned (.tuple #[.int .i64 (s % 1000000000), .int .i64 (s / 1000000000)]) ∧ w = w' := by
  by_cases h0 : 0 ≤ s
  · obtain ⟨N, rfl⟩ : ∃ N : Nat, s = (N : Int) := ⟨s.toNat, by omega⟩
    have hq : ¬ ((N : Int) < ((N / 1000000000 : Nat) : Int) * 1000000000) := by omega
    go_enter Try.func73, Try.ntmps73
    go_wp2_with fail
    go_ret2
    exact ⟨ret_ii (by omega) (by omega), rfl⟩
  · obtain ⟨N, rfl⟩ : ∃ N : Nat, s = -(N : Int) := ⟨(-s).toNat, by omega⟩
    have hd := tdiv_neg_nat N
    by_cases hr : N % 1000000000 = 0
    · have hq : ¬ (-(N : Int) < -((N / 1000000000 : Nat) : Int) * 1000000000) := by omega
      go_enter Try.func73, Try.ntmps73
      go_wp2_with fail
      go_ret2
      exact ⟨ret_ii (by omega) (by omega), rfl⟩
    · have hq : -(N : Int) < -((N / 1000000000 : Nat) : Int) * 1000000000 := by omega
      go_enter Try.func73, Try.ntmps73
      go_wp2_with fail
      go_ret2
      exact ⟨ret_ii (by omega) (by omega), rfl⟩

/-! ### cutZeros, fitting -/
theorem Own.cut3 {w : World} {lo hi n m c c' : Nat} {E : TypeId} {A : Option Addr} {xs : List Int} (o : Own w lo hi E (.slice A n c) n (iv xs)) (hm : m ≤ n) (hc : m ≤ c') (h0 : A = none → c' = 0) (hcm' : c' ≤ maxLen := by unfold maxLen; omega) : Own w lo hi E (.slice A m c') m (iv (xs.take m)) := by
  have hl := o.len
  rw [iv_len] at hl
  refine ⟨by rw [iv_len, List.length_take]; omega, ?_⟩
  rcases o.2 with ⟨h1, h2⟩ | ⟨g, c2, cur, hv, hbg, hgh, h1, h2, hg, r, _⟩
  · injection h1 with h1 _ _
    subst h1
    obtain rfl := h0 rfl
    obtain rfl : m = 0 := by omega
    exact .inl ⟨rfl, rfl⟩
  · injection hv with hv _ _
    subst hv
    refine .inr ⟨g, c', cur, rfl, hbg, hgh, by omega, h2, hg, ?_, hc, hcm'⟩
    rw [show iv (xs.take m) = (iv xs).take m by simp [iv, List.map_take], ← r, List.take_take]
    congr 1; omega
/-- a slice without spare room -/
def Tight (v : Value) (n : Nat) : Prop := ∃ A, v = .slice A n n
set_option maxHeartbeats 800000 in
theorem impl_cutZeros (w : World) (lo hi : Nat) (A : Option Addr) (n c : Nat) (xs : List Int) (o : Own w lo hi 3 (.slice A n c) n (iv xs)) (hc : n ≤ c) (hcm : c ≤ maxLen) :
    Calls Try.prog 46 #[.slice A n c] w fun e w' => ∃ v, e = .returned v ∧ Own w' lo hi 3 v (trim xs).length (iv (trim xs)) ∧ Tight v (trim xs).length ∧ w = w' := by
  unfold maxLen at hcm
  have hn : xs.length = n := by have := o.len; rwa [iv_len] at this
  have hx := o.rd
  have hA : A = none → n = 0 := fun h => by
    rcases o.2 with ⟨h1, h2⟩ | ⟨g, c2, cur, hv, _⟩
    · exact h2
    · injection hv with hv _ _; rw [h] at hv; cases hv
  have HO := hide (fun m (hm : m ≤ n) => o.cut3 (m := m) (c' := m) hm (Nat.le_refl _) (fun h => by have := hA h; omega))
  clear o hA
  go_enter Try.func46, Try.ntmps46
  go_wp2_with fail
  go_loop [3] (fun i => ∃ k : Nat, k ≤ n ∧ i = .int .i64 k ∧ Hid (trim xs = trim (xs.take k))) (fun i => (intOf i).toNat)
  case atStart => exact ⟨n, Nat.le_refl _, rfl, by show _ = _; rw [List.take_of_length_le (by omega)]⟩
  case round =>
    obtain ⟨k, hk, rfl, H⟩ := hrel
    by_cases h0 : k = 0
    · subst h0
      have HT : Hid (trim xs = xs.take 0) := H.out
      clear H hx
      go_wp2_with fail
      go_ret
      refine ⟨_, rfl, ?_, ?_, rfl⟩
      · rw [HT.out]; exact HO.out 0 (Nat.zero_le _)
      · rw [HT.out]; exact ⟨_, rfl⟩
    · obtain ⟨j, rfl⟩ : ∃ j, k = j + 1 := ⟨k - 1, by omega⟩
      obtain ⟨ad, hA, hb1, hc1⟩ := hx.int (k := j) (by omega)
      by_cases hz : xs[j] = 0
      · have HN : Hid (trim xs = trim (xs.take j)) := H.out.trans (trim_take_step (by omega) hz)
        have hzb : (xs[j] == 0) = true := by simp [hz]
        clear H hx hz h0
        subst hA
        go_wp2_with fail
        go_round
        case rel => exact ⟨j, by omega, by go_num, HN⟩
        case measure => simp [intOf]
      · have HN : Hid (trim xs = xs.take (j + 1)) := H.out.trans (trim_take_end (by omega) hz)
        have hzb : (xs[j] == 0) = false := by simp [hz]
        have HL : Hid ((xs.take (j + 1)).length = j + 1) := by show _ = _; rw [List.length_take]; omega
        clear H hx hz h0
        subst hA
        go_wp2_with fail
        go_ret
        refine ⟨_, rfl, ?_, ?_, rfl⟩
        · rw [HN.out, HL.out]; exact HO.out (j + 1) hk
        · rw [HN.out, HL.out]; exact ⟨_, rfl⟩
/-- a number where it is short enough -/
def fitL (xs : List Int) : List Int := if xs.length ≤ 60 then xs else []
theorem fitL_limbs (n : Nat) : fitL (limbs n) = capL n := rfl
set_option maxHeartbeats 800000 in
theorem impl_fitting (w : World) (lo hi : Nat) (A : Option Addr) (n c : Nat) (xs : List Int) (o : Own w lo hi 3 (.slice A n c) n (iv xs)) :
    Calls Try.prog 44 #[.slice A n c] w fun e w' => ∃ v, e = .returned v ∧ Own w' lo hi 3 v (fitL xs).length (iv (fitL xs)) ∧ w = w' := by
  have hn : xs.length = n := by have := o.len; rwa [iv_len] at this
  by_cases h60 : n ≤ 60
  · have HO : Hid (Own w lo hi 3 (.slice A n c) (fitL xs).length (iv (fitL xs))) := by show Own _ _ _ _ _ _ _; rw [fitL, if_pos (by omega), hn]; exact o
    clear o
    go_enter Try.func44, Try.ntmps44
    go_wp2_with fail
    go_ret
    exact ⟨_, rfl, HO.out, rfl⟩
  · have HC : Hid (fitL xs = []) := by show _ = _; rw [fitL, if_neg (by omega)]
    have h60' : 60 < n := by omega
    clear o h60
    go_enter Try.func44, Try.ntmps44
    go_wp2_with fail
    go_ret
    exact ⟨_, rfl, by rw [HC.out]; exact Own.nil _ _ _ _, rfl⟩

/-! ### widened -/
theorem made_zeros (n : Nat) : (madeCells (Value.int .i64 0).cells (n * 1)).toList = iv (List.replicate n 0) := by
  apply List.ext_getElem
  · simp [madeCells, iv, Value.cells]
  · intro i h1 h2
    simp [madeCells, iv, Value.cells, Nat.mod_one]
theorem Try.sizeInt : (Try.prog.info? 3).map (·.size) = some 1 := by kernel_rfl
set_option maxHeartbeats 800000 in
theorem impl_widened (w : World) (B : Nat) (hB : B ≤ w.heap.size) (A : Option Addr) (n c m : Nat) (xs : List Int) (hn : xs.length = n) (hx : Rd w B A (iv xs)) (hnm : n ≤ m) (hm : m ≤ 1000000) :
    Calls Try.prog 55 #[.slice A n c, .int .i64 m] w fun e w' => ∃ g, e = .returned (.slice (some ⟨g, 0, none⟩) m m) ∧ w.heap.size ≤ g ∧ Blk w' g 3 (xs ++ List.replicate (m - n) 0) ∧ Below w.heap.size w w' := by
  obtain ⟨i0, hi0, hz0, hz1, hz2⟩ := info_parts Try.infoInt
  obtain ⟨w1, hmk, hown0, hg0⟩ := run_make_full (P := Try.prog) w w.heap.size 28 3 i0 _ 1 Try.underlying28 hi0 hz0 hz1 .i64 .i64 m (by rw [hz2]; omega) (by unfold maxLen; omega) (Nat.le_refl _)
  have hb0 : Below w.heap.size w w1 := (Below.refl _ _).grown hg0 (Nat.le_refl _) (fun k h => by cases h)
  rw [made_zeros] at hown0
  have hbk : Blk w1 w.heap.size 3 (List.replicate m 0) := by unfold Blk; rw [List.length_replicate]; exact hown0
  have HH := hide hbk.heap
  have hx1 := hx.below (hb0.mono hB)
  have HP : Hid (0 < (iv xs).length → ∃ ad, A = some ad ∧ ∀ j v, (iv xs)[j]? = some v → w1.cell? (ad.add j) = some v) := fun h => by
    rcases hx1 with e | ⟨ad, e, _, hc⟩
    · rw [e] at h; exact absurd h (Nat.lt_irrefl _)
    · exact ⟨ad, e, hc⟩
  have HR : Hid (splice (iv (List.replicate m 0)) 0 (iv xs) = iv (xs ++ List.replicate (m - n) 0)) := by
    show _ = _
    simp [splice, iv, List.map_append, hn]
  have HL : Hid ((xs ++ List.replicate (m - n) 0).length = m) := by show _ = _; simp; omega
  have HF : Hid (0 + (iv xs).length ≤ (iv (List.replicate m 0)).length) := by show _ ≤ _; rw [iv_len, iv_len, List.length_replicate]; omega
  have HM : Hid ((iv xs).length = Nat.min n m) := by show _ = _; rw [iv_len, hn]; exact (Nat.min_eq_left hnm).symm
  have HO1 : Hid (∀ v ∈ iv xs, v.oneCell' = true) := by
    intro v hv
    obtain ⟨d, _, rfl⟩ := List.mem_map.1 hv
    rfl
  clear hi0 hz0 hz1 hz2 hg0 hown0 hx hbk hx1
  go_enter Try.func55, Try.ntmps55
  go_wp2_with (with_reducible refine wpList_copy_splice rfl (.tmp 8) (.tmp 9) 28 28 rfl 3 Try.underlying28 Try.sizeInt _ _ _ _ _ _ rfl rfl w.heap.size 0 _ 3 HH.out (iv xs) HM.out (fun h => ⟨rfl, HP.out h⟩) HF.out HO1.out w.heap.size w hb0 (Nat.le_refl _) ?_; intro w2 HG2 hB2)
  go_ret
  refine ⟨_, rfl, Nat.le_refl _, ?_, hB2⟩
  have h2 := HG2.out
  rw [HR.out] at h2
  exact Blk.of_heap h2 (by rw [HL.out]; unfold maxLen; omega)
end Go.Proofs.Ytdcceppednngjab

/-
  The program's natural numbers: contracts (2): addTimes.
-/

namespace Go.Proofs.Ytdcceppednngjab
open Go.RowKit
set_option linter.unusedVariables false

theorem Rd.aside {w w' : World} {B lo hi : Nat} {A : Option Addr} {xs : List Value} (h : Rd w B A xs) (ha : Aside lo hi w w') (hB : B ≤ w.heap.size) (hs : ∀ ad, A = some ad → ad.block < lo ∨ hi ≤ ad.block) : Rd w' B A xs := by
  rcases h with e | ⟨ad, e, hb, hc⟩
  · exact .inl e
  · refine .inr ⟨ad, e, hb, fun k u hu => ?_⟩
    rw [World.cell?_of_block (w := w) (w' := w') (ha.block _ (by rw [add_block]; omega) (by rw [add_block]; exact hs ad e))]
    exact hc k u hu
theorem mulb {f y : Int} (hf : -1000000000 ≤ f ∧ f ≤ 1000000000) (hy : 0 ≤ y ∧ y ≤ 999999999) : -999999999000000000 ≤ f * y ∧ f * y ≤ 999999999000000000 := by
  have h1 : -1000000000 * y ≤ f * y := Int.mul_le_mul_of_nonneg_right hf.1 hy.1
  have h2 : f * y ≤ 1000000000 * y := Int.mul_le_mul_of_nonneg_right hf.2 hy.1
  omega
/-- the low limbs done, and the carry behind them -/
def AddI (mid ys : List Int) (f : Int) (done : List Int) (k : Nat) (q : Int) : Prop := done.length = k ∧ Limbs done ∧ val done + 1000000000 ^ k * q = val (mid.take k) + f * val (ys.take k)
theorem AddI.next {mid ys done : List Int} {f q d y s : Int} {k : Nat} (h : AddI mid ys f done k q) (hd : mid.getD k 0 = d) (hy : ys.getD k 0 = y) (hs : s = d + f * y + q) : AddI mid ys f (done ++ [s % 1000000000]) (k + 1) (s / 1000000000) := by
  obtain ⟨h1, h2, h3⟩ := h
  refine ⟨by rw [List.length_append, h1]; rfl, h2.append (Limbs.mk (by omega) Limbs.nil), ?_⟩
  have := add_step (P := 1000000000 ^ k) (x := d) (y := f * y) (N := s) h3 (by omega)
  rw [val_snoc, h1, val_take_step, val_take_step, hd, hy, Int.pow_succ, Int.mul_add, Int.mul_left_comm f]
  exact this
theorem carry_b {d p q : Int} (hd : 0 ≤ d ∧ d ≤ 999999999) (hp : -999999999000000000 ≤ p ∧ p ≤ 999999999000000000) (hq : -1000000000 ≤ q ∧ q ≤ 1000000000) : -1000000000 ≤ (d + p + q) / 1000000000 ∧ (d + p + q) / 1000000000 ≤ 1000000000 := by omega
theorem blk_len (pre done mid post : List Int) (k : Nat) (h : done.length = k) (hk : k ≤ mid.length) : (pre ++ (done ++ mid.drop k) ++ post).length = pre.length + mid.length + post.length := by
  simp only [List.length_append, List.length_drop]; omega
theorem blk_at (pre done mid post : List Int) (k : Nat) (h : done.length = k) (hk : k < mid.length) : (pre ++ (done ++ mid.drop k) ++ post)[pre.length + k]'(by rw [blk_len pre done mid post k h (by omega)]; omega) = mid[k] := by
  rw [List.getElem_append_left (by simp only [List.length_append, List.length_drop]; omega), List.getElem_append_right (by omega), List.getElem_append_right (by omega), List.getElem_drop]
  congr 1; omega
theorem blk_set (pre done mid post : List Int) (k : Nat) (d : Int) (h : done.length = k) (hk : k < mid.length) : (pre ++ (done ++ mid.drop k) ++ post).set (pre.length + k) d = pre ++ ((done ++ [d]) ++ mid.drop (k + 1)) ++ post := by
  rw [List.set_append_left _ _ (by simp only [List.length_append, List.length_drop]; omega), List.set_append_right _ _ (by omega), List.set_append_right _ _ (by omega), List.drop_eq_getElem_cons hk]
  rw [show pre.length + k - pre.length - done.length = 0 by omega, List.set_cons_zero]
  simp
/-- the row and the carry, told for a round of addTimes -/
structure AddR (w wr : World) (g : Nat) (E : TypeId) (pre mid post done : List Int) (k : Nat) : Prop where
  blk : Blk wr g E (pre ++ (done ++ mid.drop k) ++ post)
  aside : Aside g (g + 1) w wr
  len : done.length = k
theorem AddR.reads {w wr : World} {g : Nat} {E : TypeId} {pre mid post done : List Int} {k : Nat} (h : AddR w wr g E pre mid post done k) (hk : k < mid.length) : wr.cell? ⟨g, pre.length + k, none⟩ = some (.int .i64 mid[k]) := by
  rw [h.blk.cell (j := pre.length + k) (by rw [blk_len _ _ _ _ _ h.len (by omega)]; omega), blk_at _ _ _ _ _ h.len hk]
theorem AddR.stored {w wr : World} {g : Nat} {E : TypeId} {pre mid post done : List Int} {k : Nat} (h : AddR w wr g E pre mid post done k) (hk : k < mid.length) (d : Int) : AddR w (wr.setCell ⟨g, pre.length + k, none⟩ (.int .i64 d)) g E pre mid post (done ++ [d]) (k + 1) :=
  ⟨by rw [← blk_set _ _ _ _ _ _ h.len hk]; exact h.blk.set _ _, h.aside.setCell (Nat.le_refl _) (Nat.lt_succ_self _) _, by rw [List.length_append, h.len]; rfl⟩

set_option maxHeartbeats 1600000 in
theorem impl_addTimes (w : World) (g off n cw : Nat) (B m c : Nat) (A : Option Addr) (pre mid post ys : List Int) (f : Int)
    (hblk : Blk w g 3 (pre ++ mid ++ post)) (hoff : pre.length = off) (hn : mid.length = n) (hm : ys.length = m) (hmn : m < n) (hbig : off + n ≤ 1000000)
    (hlm : Limbs (mid.take (n - 1))) (hlast : ∀ d, mid.getLast? = some d → -1000000000000000000 ≤ d ∧ d ≤ 1000000000000000000)
    (hly : Limbs ys) (hf : -1000000000 ≤ f ∧ f ≤ 1000000000) (hy : Rd w B A (iv ys)) (hB : B ≤ w.heap.size) (hsep : ys ≠ [] → ∀ ad, A = some ad → ad.block < g ∨ g + 1 ≤ ad.block) :
    Calls Try.prog 63 #[.slice (some ⟨g, off, none⟩) n cw, .slice A m c, .int .i64 f] w fun e w' => ∃ v out, e = .returned v ∧ Blk w' g 3 (pre ++ out ++ post) ∧ out.length = n ∧ Limbs (out.take (n - 1)) ∧ val out = val mid + f * val ys ∧ Aside g (g + 1) w w' := by
  subst hoff
  have hgs := hblk.lt
  have hR0 : AddR w w g 3 pre mid post [] 0 := ⟨by simpa using hblk, Aside.refl _, rfl⟩
  clear hblk
  go_enter Try.func63, Try.ntmps63
  go_wp2_with fail
  go_loopw [6, 13] (fun cq i wr => ∃ (k : Nat) (q : Int) (done : List Int), k ≤ m ∧ i = .int .i64 k ∧ cq = .int .i64 q ∧ -1000000000 ≤ q ∧ q ≤ 1000000000 ∧ AddR w wr g 3 pre mid post done k ∧ Hid (AddI mid ys f done k q)) (fun _ i _ => m - (intOf i).toNat)
  case atStart => exact ⟨0, 0, [], Nat.zero_le _, rfl, rfl, by omega, by omega, hR0, ⟨rfl, Limbs.nil, by simp [val]⟩⟩
  case round =>
    clear hR0
    obtain ⟨k, q, done, hk, rfl, rfl, hq0, hq1, R, S⟩ := hrel
    by_cases hlt : k < m
    · have hry := hy.aside R.aside hB (hsep (fun e => by subst e; simp at hm; omega))
      obtain ⟨ad, hA, hb1, hc1⟩ := hry.int (k := k) (by omega)
      have hyb := hly ys[k] (List.getElem_mem _)
      have gy := getD_in (l := ys) (k := k) (by omega)
      have hcm := R.reads (k := k) (by omega)
      have gm := getD_in (l := mid) (k := k) (by omega)
      have hdb := hlm mid[k] (List.mem_take_iff_getElem.2 ⟨k, by omega, rfl⟩)
      have hfz := R.blk.frozen (pre.length + k)
      have hp := mulb hf hyb
      have hcb := carry_b hdb hp ⟨hq0, hq1⟩
      have HS := hide (S.out.next gm gy rfl)
      have HR := hide (fun d => R.stored (k := k) (by omega) d)
      have hsp := impl_splitSum wr (mid[k] + f * ys[k] + q) (by omega) (by omega)
      generalize mid[k] = d at *
      generalize ys[k] = y at *
      obtain ⟨hp1, hp2⟩ := hp
      obtain ⟨hd1, hd2⟩ := hdb
      have HC := hide hcb
      have HP := hide hsp
      clear gm gy S R hry hy hly hlm hlast hcb hyb hsp
      subst hA
      go_wp2_with fail
      refine HP.out.mono ?_
      rintro e w' ⟨rfl, rfl⟩
      go_wp2_with fail
      go_roundw
      case rel => exact ⟨k + 1, _, _, by omega, by go_num, rfl, HC.out.1, HC.out.2, HR.out _, HS.out⟩
      case measure => simp [intOf]; omega
    · obtain rfl : k = m := by omega
      clear hy hly hsep
      have R0 := R
      have S0 := S
      clear R S
      go_wp2_with fail
      go_loopw [6, 10] (fun cq i wr => ∃ (j : Nat) (q : Int) (done : List Int), k ≤ j ∧ j ≤ n - 1 ∧ i = .int .i64 j ∧ cq = .int .i64 q ∧ -1000000000 ≤ q ∧ q ≤ 1000000000 ∧ AddR w wr g 3 pre mid post done j ∧ Hid (AddI mid ys f done j q)) (fun _ i _ => n - (intOf i).toNat)
      case atStart => exact ⟨k, q, done, Nat.le_refl _, by omega, rfl, rfl, hq0, hq1, R0, S0⟩
      case round =>
        clear R0 S0 hq0 hq1
        obtain ⟨j, q, done, hkj, hj, rfl, rfl, hq0, hq1, R, S⟩ := hrel
        by_cases hlt : j < n - 1
        · have hcm := R.reads (k := j) (by omega)
          have gm := getD_in (l := mid) (k := j) (by omega)
          have gy := getD_out (l := ys) (k := j) (by omega)
          obtain ⟨hd1, hd2⟩ := hlm mid[j] (List.mem_take_iff_getElem.2 ⟨j, by omega, rfl⟩)
          have hfz := R.blk.frozen (pre.length + j)
          have hcb : -1000000000 ≤ (mid[j] + q) / 1000000000 ∧ (mid[j] + q) / 1000000000 ≤ 1000000000 := by omega
          have HS := hide (S.out.next gm gy (s := mid[j] + q) (by omega))
          have HR := hide (fun d => R.stored (k := j) (by omega) d)
          have HP := hide (impl_splitSum wr (mid[j] + q) (by omega) (by omega))
          have HC := hide hcb
          generalize mid[j] = d at *
          clear gm gy S R hlm hlast hcb
          go_wp2_with fail
          refine HP.out.mono ?_
          rintro e w' ⟨rfl, rfl⟩
          go_wp2_with fail
          go_roundw
          case rel => exact ⟨j + 1, _, _, by omega, by omega, by go_num, rfl, HC.out.1, HC.out.2, HR.out _, HS.out⟩
          case measure => simp [intOf]; omega
        · obtain rfl : j = n - 1 := by omega
          have hcm := R.reads (k := n - 1) (by omega)
          have hfz := R.blk.frozen (pre.length + (n - 1))
          obtain ⟨hl1, hl2⟩ := hlast mid[n - 1] (by rw [List.getLast?_eq_getElem?, List.getElem?_eq_getElem (by omega)]; congr 2; omega)
          have HR := hide (fun d => R.stored (k := n - 1) (by omega) d)
          obtain ⟨s1, s2, s3⟩ := S.out
          have HV : Hid (val (done ++ [mid[n - 1] + q]) = val mid + f * val ys) := by
            show _ = _
            have e1 : val mid = val (mid.take (n - 1)) + 1000000000 ^ (n - 1) * mid[n - 1] := by
              have := val_take_step mid (n - 1)
              rw [show n - 1 + 1 = n by omega, List.take_of_length_le (l := mid) (by omega), getD_in (by omega)] at this
              exact this
            rw [List.take_of_length_le (l := ys) (by omega)] at s3
            rw [val_snoc, s1, Int.mul_add, e1]
            omega
          have HL : Hid (Limbs ((done ++ [mid[n - 1] + q]).take (n - 1))) := by
            show Limbs _
            rw [List.take_append_of_le_length (by omega), List.take_of_length_le (by omega)]; exact s2
          have HK : Hid ((done ++ [mid[n - 1] + q]).length = n) := by show _ = _; rw [List.length_append, s1]; simp; omega
          have HD : Hid (mid.drop (n - 1 + 1) = []) := by show _ = _; exact List.drop_of_length_le (by omega)
          generalize mid[n - 1] = d at *
          clear s1 s2 s3 S R hlm hlast
          go_wp2_with fail
          go_end0
          have R2 := HR.out (d + q)
          refine ⟨_, _, rfl, ?_, HK.out, HL.out, HV.out, R2.aside⟩
          have := R2.blk
          rwa [HD.out, List.append_nil] at this
end Go.Proofs.Ytdcceppednngjab

/-
  The program's natural numbers: contracts (3): NatOk, NatOf, cmp.Compare, compareLimbs, NatCmp.
-/

namespace Go.Proofs.Ytdcceppednngjab
open Go.RowKit
set_option linter.unusedVariables false

set_option maxHeartbeats 800000 in
theorem impl_NatOk (w : World) (B : Nat) (hB : B ≤ w.heap.size) (A : Option Addr) (n c : Nat) (xs : List Int) (R : RdI w B A n xs) :
    Calls Try.prog 43 #[.slice A n c] w fun e w' => e = .returned (.bool (natB xs)) ∧ w = w' := by
  obtain ⟨hn, hx, hl, hwf⟩ := R
  by_cases h60 : n ≤ 60
  · go_enter Try.func43, Try.ntmps43
    go_wp2_with fail
    go_loop [10] (fun i => ∃ k : Nat, k ≤ n ∧ i = .int .i64 k ∧ Hid (∀ j (h : j < xs.length), j < k → 0 ≤ xs[j] ∧ xs[j] ≤ 999999999)) (fun i => n - (intOf i).toNat)
    case atStart => exact ⟨0, Nat.zero_le _, rfl, fun j _ h => absurd h (Nat.not_lt_zero _)⟩
    case round =>
      obtain ⟨k, hk, rfl, H⟩ := hrel
      by_cases hlt : k < n
      · obtain ⟨ad, hA, hb1, hc1⟩ := hx.int (k := k) (by omega)
        by_cases hd : 0 ≤ xs[k] ∧ xs[k] ≤ 999999999
        · have HN : Hid (∀ j (h : j < xs.length), j < k + 1 → 0 ≤ xs[j] ∧ xs[j] ≤ 999999999) := fun j h hj => by
            by_cases e : j = k
            · subst e; exact hd
            · exact H.out j h (by omega)
          obtain ⟨hd1, hd2⟩ := hd
          generalize xs[k] = y at *
          clear H hx hwf
          subst hA
          go_wp2_with fail
          go_round
          case rel => exact ⟨k + 1, by omega, by go_num, HN⟩
          case measure => simp [intOf]; omega
        · have HB := hide (natB_bad (k := k) (by omega) hd)
          by_cases hd1 : xs[k] < 0
          · generalize xs[k] = y at *
            clear hd H hx hwf
            subst hA
            go_wp2_with fail
            go_ret
            exact ⟨ret_bool HB.out.symm, rfl⟩
          · have hd2 : 1000000000 ≤ xs[k] := by omega
            generalize xs[k] = y at *
            clear hd H hx hwf
            subst hA
            go_wp2_with fail
            go_ret
            exact ⟨ret_bool HB.out.symm, rfl⟩
      · have hL : Limbs xs := fun d hd => by
          obtain ⟨j, hj, rfl⟩ := List.getElem_of_mem hd
          exact H.out j hj (by omega)
        clear H
        by_cases h0 : n = 0
        · have HB : Hid (natB xs = true) := by
            have : xs = [] := List.eq_nil_of_length_eq_zero (by omega)
            subst this; rfl
          subst h0
          clear hx hwf hL
          go_wp2_with fail
          go_ret
          exact ⟨ret_bool HB.out.symm, rfl⟩
        · have HB := hide (natB_last (l := xs) (by omega) (by omega) hL)
          obtain ⟨ad, hA, hb1, hc1⟩ := hx.int (k := n - 1) (by omega)
          have hz : ((n : Int) == 0) = false := by simp; omega
          have e1 : xs[xs.length - 1]'(by omega) = xs[n - 1]'(by omega) := by congr 1; omega
          have HB' := hide (HB.out.trans (by rw [e1]))
          generalize xs[n - 1]'(by omega) = y at *
          have h0' : 0 < n := by omega
          clear HB e1 hx hwf hL h0
          subst hA
          go_wp2_with fail
          go_ret
          exact ⟨ret_bool HB'.out.symm, rfl⟩
  · have HB := hide (natB_long (l := xs) (by omega))
    have h60' : 60 < n := by omega
    clear hx hwf h60
    go_enter Try.func43, Try.ntmps43
    go_wp2_with fail
    go_ret
    exact ⟨ret_bool HB.out.symm, rfl⟩

/-! ### NatOf -/
theorem trim_limbs (n : Nat) : trim (limbs n) = limbs n := trim_eq (limbs_ok n) (val_limbs n)
set_option maxHeartbeats 400000 in
theorem impl_NatOf (w : World) (B : Nat) (hB : B ≤ w.heap.size) (n : Int) (hwf : (Lit.int .i64 n).wf = true) :
    Calls Try.prog 23 #[.int .i64 n] w fun e w' => ∃ v, e = .returned v ∧ Own w' w.heap.size w'.heap.size 3 v (limbs n.toNat).length (iv (limbs n.toNat)) ∧ Below w.heap.size w w' := by
  obtain ⟨h1, h2⟩ := bounds_i64 hwf
  by_cases h0 : n ≤ 0
  · have HL : Hid (limbs n.toNat = []) := by show _ = _; rw [show n.toNat = 0 by omega]; exact limbs_zero
    have HC := hide (impl_cutZeros w w.heap.size w.heap.size none 0 0 [] (Own.nil _ _ _ _) (Nat.le_refl _) (by unfold maxLen; omega))
    go_enter Try.func23, Try.ntmps23
    go_wp2_with fail
    refine wp_loop_rounds 1 ?_
    rw [rounds_succ]
    go_wp2_with fail
    refine HC.out.mono ?_
    rintro e w' ⟨v, rfl, o, _, rfl⟩
    have HO := hide o
    clear o
    go_wp2_with fail
    go_ret
    exact ⟨_, rfl, by rw [HL.out]; exact HO.out, Below.refl _ _⟩
  · obtain ⟨N, rfl⟩ : ∃ N : Nat, n = (N : Int) := ⟨n.toNat, by omega⟩
    have HN : Hid (((N : Int)).toNat = N) := by show _ = _; omega
    go_enter Try.func23, Try.ntmps23
    go_wp2_with fail
    go_loopw [3, 4] (fun v i wr => ∃ (k : Nat) (acc : List Int), k ≤ N ∧ i = .int .i64 k ∧ wr.ownsRow w.heap.size 3 1 v acc.length (iv acc) ∧ w.heap.size ≤ wr.heap.size ∧ Below w.heap.size w wr ∧ Hid (limbs N = acc ++ limbs k) ∧ Hid (acc.length + (limbs k).length ≤ 3)) (fun _ i _ => (intOf i).toNat)
    case atStart =>
      refine ⟨N, [], Nat.le_refl _, rfl, World.ownsRow_nil _ _ _ _, Nat.le_refl _, Below.refl _ _, rfl, ?_⟩
      show 0 + _ ≤ 3
      have := (limbs_len (n := N) (k := 3)).2 (by omega)
      omega
    case round =>
      obtain ⟨k, acc, hk, rfl, hown, hsz, hbl, H, H3⟩ := hrel
      by_cases hlt : 0 < k
      · have HS : Hid (limbs N = (acc ++ [((k % 1000000000 : Nat) : Int)]) ++ limbs (k / 1000000000)) := by
          show _ = _
          rw [H.out, limbs_pos hlt, List.append_assoc]; rfl
        have H3' : Hid ((acc ++ [((k % 1000000000 : Nat) : Int)]).length + (limbs (k / 1000000000)).length ≤ 3) := by
          have := H3.out
          rw [limbs_pos hlt, List.length_cons] at this
          show _ ≤ 3
          rw [List.length_append, List.length_singleton]; omega
        have hacc : acc.length ≤ 3 := by have := H3.out; omega
        clear H H3
        go_wp2_with (at_builtin; refine wpList_append1 Try.sliceInt rfl _ _ rfl wr w.heap.size _ _ _ hown rfl #[.int .i64 ((k : Int) % 1000000000)] 1 rfl rfl (by simp [Value.oneCell']) (by omega) (by omega) hsz ?_; intro v' w1 hown1 hb1)
        have hs1 := hb1.size
        go_roundw
        case rel =>
          refine ⟨k / 1000000000, acc ++ [((k % 1000000000 : Nat) : Int)], by omega, by go_num, ?_, by omega, hbl.trans hb1, HS, H3'⟩
          simpa [iv] using hown1
        case measure => simp [intOf]; omega
      · obtain rfl : k = 0 := by omega
        have HE : Hid (limbs N = acc) := by show _ = _; rw [H.out, limbs_zero, List.append_nil]
        have HT : Hid (trim acc = limbs N) := by show _ = _; rw [← HE.out]; exact trim_limbs N
        obtain ⟨A', c', rfl, hcc, hcm⟩ : ∃ A' c', u3 = .slice A' acc.length c' ∧ acc.length ≤ c' ∧ c' ≤ maxLen := by
          rcases hown.2 with ⟨h', h0'⟩ | ⟨g', c', cur, hv, _, _, hnc, hcm, _⟩
          · exact ⟨none, 0, by rw [h', h0'], by omega, by unfold maxLen; omega⟩
          · exact ⟨_, c', hv, hnc, hcm⟩
        have HC := hide (impl_cutZeros wr w.heap.size wr.heap.size A' acc.length c' acc (Own.of_row hown (Nat.le_refl _)) hcc hcm)
        have HB := hide hbl
        clear H H3 hown hbl hcc
        go_wp2_with fail
        refine HC.out.mono ?_
        rintro e w' ⟨v, rfl, o, _, rfl⟩
        have HO := hide o
        clear o HC
        go_wp2_with fail
        go_ret
        refine ⟨_, rfl, ?_, HB.out⟩
        have := HO.out
        rw [HN.out, ← HT.out]; exact this

/-! ### cmp.Compare, compareLimbs, NatCmp -/
theorem impl_isNaN (w : World) (x : Int) : Calls Try.prog 74 #[.int .i64 x] w fun e w' => e = .returned (.bool false) ∧ w = w' := by
  have h : (x != x) = false := by simp
  go_enter Try.func74, Try.ntmps74
  go_wp2_with fail
  go_ret
  exact ⟨rfl, rfl⟩
set_option maxHeartbeats 800000 in
theorem impl_Compare (w : World) (x y : Int) : Calls Try.prog 67 #[.int .i64 x, .int .i64 y] w fun e w' => e = .returned (.int .i64 (cmpV x y)) ∧ w = w' := by
  have H1 := hide (impl_isNaN w x)
  have H2 := hide (impl_isNaN w y)
  by_cases h1 : x < y
  · have HE := hide (cmpV_lt h1)
    go_enter Try.func67, Try.ntmps67
    go_wp2_with fail
    refine H1.out.mono ?_
    rintro e w' ⟨rfl, rfl⟩
    go_wp2_with fail
    refine H2.out.mono ?_
    rintro e w' ⟨rfl, rfl⟩
    go_wp2_with fail
    go_ret
    exact ⟨ret_int HE.out.symm, rfl⟩
  · by_cases h2 : y < x
    · have HE := hide (cmpV_gt h2)
      go_enter Try.func67, Try.ntmps67
      go_wp2_with fail
      refine H1.out.mono ?_
      rintro e w' ⟨rfl, rfl⟩
      go_wp2_with fail
      refine H2.out.mono ?_
      rintro e w' ⟨rfl, rfl⟩
      go_wp2_with fail
      go_ret
      exact ⟨ret_int HE.out.symm, rfl⟩
    · have e : x = y := by omega
      have HE : Hid (cmpV x y = 0) := by show _ = _; rw [e]; exact cmpV_eq _
      clear e
      go_enter Try.func67, Try.ntmps67
      go_wp2_with fail
      refine H1.out.mono ?_
      rintro e w' ⟨rfl, rfl⟩
      go_wp2_with fail
      refine H2.out.mono ?_
      rintro e w' ⟨rfl, rfl⟩
      go_wp2_with fail
      go_ret
      exact ⟨ret_int HE.out.symm, rfl⟩
theorem cmpV_len {a b : List Int} (ha : Canon a) (hb : Canon b) (h : a.length ≠ b.length) : cmpV (val a) (val b) = cmpV (a.length : Int) (b.length : Int) := by
  by_cases hlt : a.length < b.length
  · rw [cmpV_lt (val_lt_len ha.1 hb hlt), cmpV_lt (by omega)]
  · rw [cmpV_gt (val_lt_len hb.1 ha (by omega)), cmpV_gt (by omega)]
set_option maxHeartbeats 1600000 in
theorem impl_Cmp (w : World) (B : Nat) (A A' : Option Addr) (n m c c' : Nat) (xs ys : List Int) (hn : xs.length = n) (hm : ys.length = m) (hx : Rd w B A (iv xs)) (hy : Rd w B A' (iv ys)) (hl : n ≤ 100000000) (hl' : m ≤ 100000000) (hcx : Canon xs) (hcy : Canon ys) :
    Calls Try.prog 51 #[.slice A n c, .slice A' m c'] w fun e w' => e = .returned (.int .i64 (cmpV (val xs) (val ys))) ∧ ∃ d, w' = w.drewN d := by
  by_cases hnm : n = m
  · subst hnm
    go_enter Try.func51, Try.ntmps51
    go_wp2_with fail
    go_loopw [5] (fun i wr => ∃ k d : Nat, k ≤ n ∧ i = .int .i64 ((k : Int) - 1) ∧ wr = w.drewN d ∧ Hid (xs.drop k = ys.drop k)) (fun i _ => (intOf i + 1).toNat)
    case atStart => exact ⟨n, 0, Nat.le_refl _, rfl, rfl, by show _ = _; rw [List.drop_of_length_le (by omega), List.drop_of_length_le (by omega)]⟩
    case round =>
      obtain ⟨k, d, hk, rfl, rfl, H⟩ := hrel
      by_cases h0 : k = 0
      · subst h0
        have HE : Hid (cmpV (val xs) (val ys) = 0) := by
          have : xs = ys := H.out
          show _ = _
          rw [this]; exact cmpV_eq _
        clear H hx hy
        go_wp2_with fail
        go_ret
        exact ⟨ret_int HE.out.symm, d, rfl⟩
      · obtain ⟨j, rfl⟩ : ∃ j, k = j + 1 := ⟨k - 1, by omega⟩
        rw [show (((j + 1 : Nat) : Int) - 1) = (j : Int) by omega]
        obtain ⟨ad, hA, hb1, hc1⟩ := hx.int (k := j) (by omega)
        obtain ⟨ad', hA', hb2, hc2⟩ := hy.int (k := j) (by omega)
        have hj0 : (0 : Int) ≤ (j : Int) := Int.natCast_nonneg _
        have hj1 : (j : Int) < (n : Int) := by omega
        by_cases heq : xs[j] = ys[j]
        · have HN : Hid (xs.drop j = ys.drop j) := by
            show _ = _
            rw [List.drop_eq_getElem_cons (show j < xs.length by omega), List.drop_eq_getElem_cons (show j < ys.length by omega), H.out, heq]
          have hq : (xs[j] != ys[j]) = false := by simp [heq]
          clear H hx hy h0 heq
          subst hA hA'
          go_wp2_with fail
          go_quiet (fail)
          go_wp2_with fail
          go_roundw
          case rel => exact ⟨j, _, by omega, rfl, rfl, HN⟩
          case measure => simp [intOf]
        · have HE : Hid (cmpV (val xs) (val ys) = cmpV xs[j] ys[j]) := by
            show _ = _
            by_cases hlt : xs[j] < ys[j]
            · rw [cmpV_lt hlt, cmpV_lt (cmp_at hcx.1 hcy.1 (by omega) (by omega) H.out hlt)]
            · rw [cmpV_gt (show ys[j] < xs[j] by omega), cmpV_gt (cmp_at hcy.1 hcx.1 (by omega) (by omega) H.out.symm (by omega))]
          have hq : (xs[j] != ys[j]) = true := by simp [heq]
          clear H hx hy h0 heq
          subst hA hA'
          go_wp2_with fail
          go_quiet (fail)
          go_wp2_with fail
          go_quiet ((go_at_call 67; exact (impl_Compare _ _ _).mono (by rintro e w' ⟨rfl, rfl⟩; exact ⟨rfl, _, by first | rfl | (simp only [World.drewN_drewN]; congr 1; omega)⟩)))
          go_wp2_with fail
          go_ret
          exact ⟨ret_int HE.out.symm, _, (by rw [World.drewN_drewN, World.drewN_drewN])⟩
  · have hq : ((n : Int) != (m : Int)) = true := by simp; omega
    have HE : Hid (cmpV (val xs) (val ys) = cmpV (n : Int) (m : Int)) := by
      show _ = _
      rw [cmpV_len hcx hcy (by omega), hn, hm]
    clear hx hy hnm
    go_enter Try.func51, Try.ntmps51
    go_wp2_with fail
    refine (impl_Compare w (n : Int) (m : Int)).mono ?_
    rintro e w' ⟨rfl, rfl⟩
    go_wp2_with fail
    go_ret
    exact ⟨ret_int HE.out.symm, 0, rfl⟩

end Go.Proofs.Ytdcceppednngjab

/-
  The program's natural numbers: contracts (4): NatToInt, NatAdd, NatSub, NatMul.
-/

namespace Go.Proofs.Ytdcceppednngjab
open Go.RowKit
set_option linter.unusedVariables false

/-! ### rows with zeros behind -/
theorem val_zeros (k : Nat) : val (List.replicate k 0) = 0 := by
  induction k with
  | zero => rfl
  | succ k ih => rw [List.replicate_succ, val, ih]; rfl
theorem zeros_ok (k : Nat) : Limbs (List.replicate k 0) := fun d hd => by
  rw [List.mem_replicate] at hd; omega
theorem val_pad (l : List Int) (k : Nat) : val (l ++ List.replicate k 0) = val l := by rw [val_append, val_zeros]; simp
theorem Limbs.last {l : List Int} (h : Limbs l) : ∀ d, l.getLast? = some d → -1000000000000000000 ≤ d ∧ d ≤ 1000000000000000000 := fun d hd => by
  have := h d (List.mem_of_getLast? hd); omega
theorem limbs_of_val {l : List Int} {n : Nat} (hl : l.length = n) (hn : 0 < n) (h : Limbs (l.take (n - 1))) (h0 : 0 ≤ val l) (h1 : val l < 1000000000 ^ n) : Limbs l := by
  have e : l = l.take (n - 1) ++ [l[n - 1]] := by
    rw [← List.take_succ_eq_append_getElem, List.take_of_length_le (by omega)]
  have hv : val l = val (l.take (n - 1)) + 1000000000 ^ (n - 1) * l[n - 1] := by
    conv => lhs; rw [e]
    rw [val_snoc, List.length_take, Nat.min_eq_left (by omega)]
  have a0 := val_nonneg h
  have a1 := val_lt h
  rw [List.length_take, Nat.min_eq_left (by omega)] at a1
  have hp := pow_pos' (n - 1)
  have e2 : (1000000000 : Int) ^ n = 1000000000 ^ (n - 1) * 1000000000 := by rw [← Int.pow_succ]; congr 1; omega
  rw [e]
  refine h.append (Limbs.mk ⟨?_, ?_⟩ Limbs.nil)
  · rcases Int.lt_or_le l[n - 1] 0 with hd | hd
    · have := Int.mul_le_mul_of_nonneg_left (show l[n - 1] ≤ -1 by omega) (Int.le_of_lt hp)
      omega
    · exact hd
  · rcases Int.lt_or_le 999999999 l[n - 1] with hd | hd
    · have := Int.mul_le_mul_of_nonneg_left (show 1000000000 ≤ l[n - 1] by omega) (Int.le_of_lt hp)
      omega
    · exact hd
theorem pow_le' {a b : Nat} (h : a ≤ b) : (1000000000 : Int) ^ a ≤ 1000000000 ^ b := by
  rw [pow_cast, pow_cast]; exact Int.ofNat_le.2 (Nat.pow_le_pow_right (by omega) h)
set_option maxHeartbeats 800000 in
theorem impl_addWhole (w : World) (g n cw : Nat) (B m c : Nat) (A : Option Addr) (mid ys : List Int) (f : Int)
    (hblk : Blk w g 3 mid) (hn : mid.length = n) (hm : ys.length = m) (hmn : m < n) (hbig : n ≤ 1000000)
    (hlm : Limbs (mid.take (n - 1))) (hlast : ∀ d, mid.getLast? = some d → -1000000000000000000 ≤ d ∧ d ≤ 1000000000000000000)
    (hly : Limbs ys) (hf : -1000000000 ≤ f ∧ f ≤ 1000000000) (hy : Rd w B A (iv ys)) (hB : B ≤ w.heap.size) (hsep : ys ≠ [] → ∀ ad, A = some ad → ad.block < g ∨ g + 1 ≤ ad.block) :
    Calls Try.prog 63 #[.slice (some ⟨g, 0, none⟩) n cw, .slice A m c, .int .i64 f] w fun e w' => ∃ v out, e = .returned v ∧ Blk w' g 3 out ∧ out.length = n ∧ Limbs (out.take (n - 1)) ∧ val out = val mid + f * val ys ∧ Aside g (g + 1) w w' := by
  refine (impl_addTimes w g 0 n cw B m c A [] mid [] ys f (by simpa using hblk) rfl hn hm hmn (by omega) hlm hlast hly hf hy hB hsep).mono ?_
  rintro e w' ⟨v, out, rfl, h1, h2⟩
  exact ⟨v, out, rfl, by simpa using h1, h2⟩
theorem Rd.sep {w : World} {B g : Nat} {A : Option Addr} {xs : List Int} (h : Rd w B A (iv xs)) (hg : B ≤ g) (h0 : xs ≠ []) : ∀ ad, A = some ad → ad.block < g ∨ g + 1 ≤ ad.block := fun ad e => by
  rcases h with h | ⟨ad', e', hb, _⟩
  · exact absurd (List.map_eq_nil_iff.1 h) h0
  · rw [e] at e'; injection e' with e'; subst e'; omega
/-! ### NatAdd -/
set_option maxHeartbeats 1600000 in
theorem impl_addLimbs (w : World) (B : Nat) (hB : B ≤ w.heap.size) (A0 : Option Addr) (n0 c0 : Nat) (xs0 : List Int) (R0 : RdI w B A0 n0 xs0) (A1 : Option Addr) (n1 c1 : Nat) (xs1 : List Int) (R1 : RdI w B A1 n1 xs1) (k0 : Canon xs0) (k1 : Canon xs1) (l0 : n0 ≤ 1000) (l1 : n1 ≤ 1000) :
    Calls Try.prog 60 #[.slice A0 n0 c0, .slice A1 n1 c1] w fun e w' => ∃ v, e = .returned v ∧ Own w' w.heap.size w'.heap.size 3 v (limbs (val xs0 + val xs1).toNat).length (iv (limbs (val xs0 + val xs1).toNat)) ∧ Below w.heap.size w w' := by
  have e0 := R0.1
  have e1 := R1.1
  obtain ⟨M, hM⟩ : ∃ M : Nat, M = max n0 n1 + 1 := ⟨_, rfl⟩
  have HW := hide (impl_widened w B hB A0 n0 c0 M xs0 e0 R0.2.1 (by omega) (by omega))
  have HA := hide (fun w1 g (hg : w.heap.size ≤ g) (hb1 : Below w.heap.size w w1) (hblk : Blk w1 g 3 (xs0 ++ List.replicate (M - n0) 0)) =>
    impl_addWhole w1 g M M B n1 c1 A1 (xs0 ++ List.replicate (M - n0) 0) xs1 1 hblk (by simp; omega) e1 (by omega) (by omega)
      ((k0.1.append (zeros_ok _)).take _) (k0.1.append (zeros_ok _)).last k1.1 (by omega) (R1.2.1.below (hb1.mono hB)) (by have := hb1.size; omega) (R1.2.1.sep (by omega)))
  have HF : Hid (∀ out : List Int, out.length = M → Limbs (out.take (M - 1)) → val out = val (xs0 ++ List.replicate (M - n0) 0) + 1 * val xs1 → trim out = limbs (val xs0 + val xs1).toNat) := fun out hl ht hv => by
    rw [val_pad] at hv
    have a0 := val_nonneg k0.1
    have a1 := val_nonneg k1.1
    have b0 := val_lt k0.1
    have b1 := val_lt k1.1
    have p0 := pow_le' (show xs0.length ≤ M - 1 by omega)
    have p1 := pow_le' (show xs1.length ≤ M - 1 by omega)
    have e2 : (1000000000 : Int) ^ M = 1000000000 ^ (M - 1) * 1000000000 := by rw [← Int.pow_succ]; congr 1; omega
    exact trim_eq (limbs_of_val hl (by omega) ht (by omega) (by omega)) (by omega)
  have hM6 : M ≤ 1001 := by omega
  generalize limbs (val xs0 + val xs1).toNat = L at *
  clear R0 R1 k0 k1
  by_cases hle : n1 ≤ n0
  · have hle' : (n1 : Int) ≤ (n0 : Int) := by omega
    have hMe : (n0 : Int) + 1 = (M : Int) := by omega
    have HMM := hide hM
    clear hM
    go_enter Try.func60, Try.ntmps60
    go_wp2_with fail
    refine HW.out.mono ?_
    rintro e w1 ⟨g, rfl, hg, hblk, hb1⟩
    have HA1 := hide (HA.out w1 g hg hb1 hblk)
    have HB1 := hide hb1
    have hs1 := hb1.size
    clear hblk hb1
    go_wp2_with fail
    refine HA1.out.mono ?_
    rintro e w2 ⟨v, out, rfl, hblk, hl, ht, hv, ha⟩
    have HE := hide (HF.out out hl ht hv)
    have HP := hide (impl_cutZeros w2 g (g + 1) (some ⟨g, 0, none⟩) M M out (by have := hblk.own M M (by omega); rwa [List.take_of_length_le (by omega)] at this) (Nat.le_refl _) (by unfold maxLen; omega))
    have hgl := hblk.lt
    have hb2 := HB1.out.trans (ha.below (by omega) (by omega))
    clear hv ht hl hblk ha
    go_wp2_with fail
    refine HP.out.mono ?_
    rintro e w' ⟨v2, rfl, o, _, rfl⟩
    rw [HE.out] at o
    have HO := hide (o.wider (lo' := w.heap.size) (hi' := w2.heap.size) hg (by omega))
    clear o
    go_wp2_with fail
    go_ret
    exact ⟨_, rfl, HO.out, hb2⟩
  · have hle' : (n0 : Int) < (n1 : Int) := by omega
    have hMe : (n1 : Int) + 1 = (M : Int) := by omega
    have HMM := hide hM
    clear hM
    go_enter Try.func60, Try.ntmps60
    go_wp2_with fail
    refine HW.out.mono ?_
    rintro e w1 ⟨g, rfl, hg, hblk, hb1⟩
    have HA1 := hide (HA.out w1 g hg hb1 hblk)
    have HB1 := hide hb1
    have hs1 := hb1.size
    clear hblk hb1
    go_wp2_with fail
    refine HA1.out.mono ?_
    rintro e w2 ⟨v, out, rfl, hblk, hl, ht, hv, ha⟩
    have HE := hide (HF.out out hl ht hv)
    have HP := hide (impl_cutZeros w2 g (g + 1) (some ⟨g, 0, none⟩) M M out (by have := hblk.own M M (by omega); rwa [List.take_of_length_le (by omega)] at this) (Nat.le_refl _) (by unfold maxLen; omega))
    have hgl := hblk.lt
    have hb2 := HB1.out.trans (ha.below (by omega) (by omega))
    clear hv ht hl hblk ha
    go_wp2_with fail
    refine HP.out.mono ?_
    rintro e w' ⟨v2, rfl, o, _, rfl⟩
    rw [HE.out] at o
    have HO := hide (o.wider (lo' := w.heap.size) (hi' := w2.heap.size) hg (by omega))
    clear o
    go_wp2_with fail
    go_ret
    exact ⟨_, rfl, HO.out, hb2⟩
/-- a number from its list, short enough for the plain functions -/
theorem nat_sum {a b : List Int} (ha : natB a = true) (hb : natB b = true) : fitL (limbs (val a + val b).toNat) = addL a b := by
  rw [fitL_limbs, addL, ha, hb, ← natV_val ha, ← natV_val hb]
  show _ = capL _
  congr 1
theorem nat_product {a b : List Int} (ha : natB a = true) (hb : natB b = true) : fitL (limbs (val a * val b).toNat) = mulL a b := by
  rw [fitL_limbs, mulL, ha, hb, ← natV_val ha, ← natV_val hb]
  show _ = capL _
  congr 1
set_option maxHeartbeats 1600000 in
theorem impl_NatAdd (w : World) (B : Nat) (hB : B ≤ w.heap.size) (A0 : Option Addr) (n0 c0 : Nat) (xs0 : List Int) (R0 : RdI w B A0 n0 xs0) (A1 : Option Addr) (n1 c1 : Nat) (xs1 : List Int) (R1 : RdI w B A1 n1 xs1) :
    Calls Try.prog 58 #[.slice A0 n0 c0, .slice A1 n1 c1] w fun e w' => ∃ v, e = .returned v ∧ Own w' w.heap.size w'.heap.size 3 v (addL xs0 xs1).length (iv (addL xs0 xs1)) ∧ Below w.heap.size w w' := by
  have H0 := hide (impl_NatOk w B hB A0 n0 c0 xs0 R0)
  have H1 := hide (impl_NatOk w B hB A1 n1 c1 xs1 R1)
  by_cases h0 : natB xs0 = true
  · by_cases h1 : natB xs1 = true
    · obtain ⟨k0, l0⟩ := (natB_iff xs0).1 h0
      obtain ⟨k1, l1⟩ := (natB_iff xs1).1 h1
      have e0 := R0.1
      have e1 := R1.1
      have HS := hide (impl_addLimbs w B hB A0 n0 c0 xs0 R0 A1 n1 c1 xs1 R1 k0 k1 (by omega) (by omega))
      have HE := hide (nat_sum h0 h1)
      clear R0 R1 k0 k1 l0 l1 e0 e1
      generalize limbs (val xs0 + val xs1).toNat = L at HS HE
      go_enter Try.func58, Try.ntmps58
      go_wp2_with fail
      refine H0.out.mono ?_
      rintro e w' ⟨rfl, rfl⟩
      go_wp2_with fail
      refine H1.out.mono ?_
      rintro e w' ⟨rfl, rfl⟩
      go_wp2_with fail
      refine HS.out.mono ?_
      rintro e w1 ⟨v, rfl, o, hb⟩
      obtain ⟨A2, c2, rfl⟩ := o.form
      have HP := hide (impl_fitting w1 w.heap.size w1.heap.size A2 L.length c2 L o)
      have HB := hide hb
      clear o hb
      go_wp2_with fail
      refine HP.out.mono ?_
      rintro e w' ⟨v2, rfl, o, rfl⟩
      rw [HE.out] at o
      have HO := hide o
      clear o
      go_wp2_with fail
      go_ret
      exact ⟨_, rfl, HO.out, HB.out⟩
    · have h1' : natB xs1 = false := by simpa using h1
      have HE : Hid (addL xs0 xs1 = []) := by show _ = _; rw [addL, h1']; simp
      clear R0 R1 h1
      go_enter Try.func58, Try.ntmps58
      go_wp2_with fail
      refine H0.out.mono ?_
      rintro e w' ⟨rfl, rfl⟩
      go_wp2_with fail
      refine H1.out.mono ?_
      rintro e w' ⟨rfl, rfl⟩
      go_wp2_with fail
      go_ret
      exact ⟨_, rfl, by rw [HE.out]; exact Own.nil _ _ _ _, Below.refl _ _⟩
  · have h0' : natB xs0 = false := by simpa using h0
    have HE : Hid (addL xs0 xs1 = []) := by show _ = _; rw [addL, h0']; simp
    clear R0 R1 h0
    go_enter Try.func58, Try.ntmps58
    go_wp2_with fail
    refine H0.out.mono ?_
    rintro e w' ⟨rfl, rfl⟩
    go_wp2_with fail
    go_ret
    exact ⟨_, rfl, by rw [HE.out]; exact Own.nil _ _ _ _, Below.refl _ _⟩
/-! ### NatSub -/
theorem cmpV_negI {a b : Int} : cmpV a b < 0 ↔ a < b := by
  unfold cmpV
  split
  · omega
  · split <;> omega
theorem natV_lt60 {l : List Int} (h : natB l = true) : natV l < 1000000000 ^ 60 := by
  obtain ⟨hc, hl⟩ := (natB_iff l).1 h
  have e := limbs_natV h
  exact limbs_len.1 (by rw [e]; exact hl)
end Go.Proofs.Ytdcceppednngjab

/-
  The program's natural numbers: contracts (4, second part): NatToInt, NatSub.
-/

namespace Go.Proofs.Ytdcceppednngjab
open Go.RowKit
set_option linter.unusedVariables false

set_option maxHeartbeats 1600000 in
theorem impl_subtractLimbs (w : World) (B : Nat) (hB : B ≤ w.heap.size) (A0 : Option Addr) (n0 c0 : Nat) (xs0 : List Int) (R0 : RdI w B A0 n0 xs0) (A1 : Option Addr) (n1 c1 : Nat) (xs1 : List Int) (R1 : RdI w B A1 n1 xs1) (k0 : Canon xs0) (k1 : Canon xs1) (l0 : n0 ≤ 1000) (hle : val xs1 ≤ val xs0) :
    Calls Try.prog 62 #[.slice A0 n0 c0, .slice A1 n1 c1] w fun e w' => ∃ v, e = .returned v ∧ Own w' w.heap.size w'.heap.size 3 v (limbs (val xs0 - val xs1).toNat).length (iv (limbs (val xs0 - val xs1).toNat)) ∧ Below w.heap.size w w' := by
  have e0 := R0.1
  have e1 := R1.1
  have hn10 : n1 ≤ n0 := by
    rcases Nat.lt_or_ge n0 n1 with h | h
    · have := val_lt_len k0.1 k1 (by omega); omega
    · exact h
  have HF : Hid (∀ out : List Int, out.length = n0 + 1 → Limbs (out.take (n0 + 1 - 1)) → val out = val (xs0 ++ List.replicate (n0 + 1 - n0) 0) + -1 * val xs1 → trim out = limbs (val xs0 - val xs1).toNat) := fun out hl ht hv => by
    rw [val_pad] at hv
    have a0 := val_nonneg k0.1
    have a1 := val_nonneg k1.1
    have b0 := val_lt k0.1
    have p0 := pow_le' (show xs0.length ≤ n0 + 1 by omega)
    exact trim_eq (limbs_of_val hl (by omega) ht (by omega) (by omega)) (by omega)
  have HW := hide (impl_widened w B hB A0 n0 c0 (n0 + 1) xs0 e0 R0.2.1 (by omega) (by omega))
  have HA := hide (fun w1 g (hg : w.heap.size ≤ g) (hb1 : Below w.heap.size w w1) (hblk : Blk w1 g 3 (xs0 ++ List.replicate (n0 + 1 - n0) 0)) =>
    impl_addWhole w1 g (n0 + 1) (n0 + 1) B n1 c1 A1 (xs0 ++ List.replicate (n0 + 1 - n0) 0) xs1 (-1) hblk (by simp; omega) e1 (by omega) (by omega)
      ((k0.1.append (zeros_ok _)).take _) (k0.1.append (zeros_ok _)).last k1.1 (by omega) (R1.2.1.below (hb1.mono hB)) (by have := hb1.size; omega) (R1.2.1.sep (by omega)))
  generalize limbs (val xs0 - val xs1).toNat = L at *
  clear R0 R1 k0 k1 hle
  go_enter Try.func62, Try.ntmps62
  go_wp2_with fail
  refine HW.out.mono ?_
  rintro e w1 ⟨g, rfl, hg, hblk, hb1⟩
  have HA1 := hide (HA.out w1 g hg hb1 hblk)
  have HB1 := hide hb1
  have hs1 := hb1.size
  clear hblk hb1
  go_wp2_with fail
  refine HA1.out.mono ?_
  rintro e w2 ⟨v, out, rfl, hblk, hl, ht, hv, ha⟩
  have HE := hide (HF.out out hl ht hv)
  have HP := hide (impl_cutZeros w2 g (g + 1) (some ⟨g, 0, none⟩) (n0 + 1) (n0 + 1) out (by have := hblk.own (n0 + 1) (n0 + 1) (by omega); rwa [List.take_of_length_le (by omega)] at this) (Nat.le_refl _) (by unfold maxLen; omega))
  have hgl := hblk.lt
  have hb2 := HB1.out.trans (ha.below hg (by omega))
  clear hv ht hl hblk ha
  go_wp2_with fail
  refine HP.out.mono ?_
  rintro e w' ⟨v2, rfl, o, _, rfl⟩
  rw [HE.out] at o
  have HO := hide (o.wider (lo' := w.heap.size) (hi' := w2.heap.size) hg (by omega))
  clear o
  go_wp2_with fail
  go_ret
  exact ⟨_, rfl, HO.out, hb2⟩
end Go.Proofs.Ytdcceppednngjab

/-
  The program's natural numbers: contracts (5): NatMul.
-/

namespace Go.Proofs.Ytdcceppednngjab
open Go.RowKit
set_option linter.unusedVariables false

/-- the product so far -/
structure MulP (xs ys P : List Int) (L i : Nat) : Prop where
  len : P.length = L
  ok : Limbs P
  v : val P = val (xs.take i) * val ys
theorem split3 (P : List Int) (i k : Nat) : P = P.take i ++ (P.drop i).take k ++ P.drop (i + k) := by
  rw [List.append_assoc, ← List.drop_drop, List.take_append_drop, List.take_append_drop]
theorem val_split3 (P : List Int) (i k : Nat) (h : i + k ≤ P.length) : val P = val (P.take i) + 1000000000 ^ i * (val ((P.drop i).take k) + 1000000000 ^ k * val (P.drop (i + k))) := by
  conv => lhs; rw [split3 P i k, List.append_assoc, val_append, val_append]
  rw [List.length_take, List.length_take, List.length_drop, Nat.min_eq_left (by omega), Nat.min_eq_left (by omega)]
/-- the window's value is small: what stands above it is zero -/
theorem MulP.win {xs ys P : List Int} {L i : Nat} (h : MulP xs ys P L i) (hx : Limbs xs) (hy : Limbs ys) (hi : i < xs.length) (hL : L = xs.length + ys.length) : val ((P.drop i).take (ys.length + 1)) < 1000000000 ^ ys.length := by
  have e := val_split3 P i (ys.length + 1) (by rw [h.len]; omega)
  have hv := h.v
  have a0 := val_nonneg (h.ok.take i)
  have a1 := val_nonneg ((h.ok.drop i).take (ys.length + 1))
  have a2 := val_nonneg (h.ok.drop (i + (ys.length + 1)))
  have b0 := val_lt (hx.take i)
  have b1 := val_lt hy
  have c0 := val_nonneg (hx.take i)
  have c1 := val_nonneg hy
  rw [List.length_take, Nat.min_eq_left (by omega)] at b0
  generalize val ((P.drop i).take (ys.length + 1)) = m at *
  generalize val (P.drop (i + (ys.length + 1))) = t at *
  rcases Int.lt_or_le m (1000000000 ^ ys.length) with hlt | hge
  · exact hlt
  · exfalso
    have hp := pow_pos' i
    have hq := pow_pos' (ys.length + 1)
    have d0 : 0 ≤ 1000000000 ^ (ys.length + 1) * t := Int.mul_nonneg (Int.le_of_lt hq) a2
    have d1 : 1000000000 ^ i * 1000000000 ^ ys.length ≤ 1000000000 ^ i * (m + 1000000000 ^ (ys.length + 1) * t) := Int.mul_le_mul_of_nonneg_left (by omega) (Int.le_of_lt hp)
    have d2 : val (xs.take i) * val ys < 1000000000 ^ i * 1000000000 ^ ys.length := Int.lt_of_le_of_lt (Int.mul_le_mul_of_nonneg_left (Int.le_of_lt b1) c0) (Int.mul_lt_mul_of_pos_right b0 (pow_pos' ys.length))
    omega
theorem MulP.next {xs ys P out : List Int} {L i : Nat} (h : MulP xs ys P L i) (hx : Limbs xs) (hy : Limbs ys) (hi : i < xs.length) (hL : L = xs.length + ys.length)
    (ol : out.length = ys.length + 1) (ot : Limbs (out.take (ys.length + 1 - 1))) (ov : val out = val ((P.drop i).take (ys.length + 1)) + xs[i] * val ys) : MulP xs ys (P.take i ++ out ++ P.drop (i + (ys.length + 1))) L (i + 1) := by
  have hw := h.win hx hy hi hL
  have a1 := val_nonneg ((h.ok.drop i).take (ys.length + 1))
  have c1 := val_nonneg hy
  have b1 := val_lt hy
  have hd := hx xs[i] (List.getElem_mem _)
  have m0 : 0 ≤ xs[i] * val ys := Int.mul_nonneg hd.1 c1
  have m1 : xs[i] * val ys ≤ 999999999 * val ys := Int.mul_le_mul_of_nonneg_right hd.2 c1
  have e2 : (1000000000 : Int) ^ (ys.length + 1) = 1000000000 ^ ys.length * 1000000000 := Int.pow_succ ..
  have ho : Limbs out := limbs_of_val ol (by omega) ot (by omega) (by omega)
  have hl := h.len
  refine ⟨?_, ((h.ok.take i).append ho).append (h.ok.drop _), ?_⟩
  · simp only [List.length_append, List.length_take, List.length_drop]; omega
  · have e := val_split3 P i (ys.length + 1) (by rw [hl]; omega)
    rw [List.append_assoc, val_append, val_append, ol, List.length_take, Nat.min_eq_left (by omega), ov]
    have e3 := val_take_step xs i
    rw [getD_in hi] at e3
    rw [e3, Int.add_mul, ← h.v, e, Int.mul_add, Int.mul_add, Int.mul_add, Int.mul_assoc]
    omega
set_option maxHeartbeats 1600000 in
theorem impl_multiplyLimbs (w : World) (B : Nat) (hB : B ≤ w.heap.size) (A0 : Option Addr) (n0 c0 : Nat) (xs0 : List Int) (R0 : RdI w B A0 n0 xs0) (A1 : Option Addr) (n1 c1 : Nat) (xs1 : List Int) (R1 : RdI w B A1 n1 xs1) (k0 : Canon xs0) (k1 : Canon xs1) (l0 : n0 ≤ 1000) (l1 : n1 ≤ 1000) :
    Calls Try.prog 45 #[.slice A0 n0 c0, .slice A1 n1 c1] w fun e w' => ∃ v, e = .returned v ∧ Own w' w.heap.size w'.heap.size 3 v (limbs (val xs0 * val xs1).toNat).length (iv (limbs (val xs0 * val xs1).toNat)) ∧ Below w.heap.size w w' := by
  have e0 := R0.1
  have e1 := R1.1
  have hx0 := R0.2.1
  have hx1 := R1.2.1
  obtain ⟨L, hL⟩ : ∃ L : Nat, L = n0 + n1 := ⟨_, rfl⟩
  have hLe : (n0 : Int) + (n1 : Int) = (L : Int) := by omega
  have hl0 : n0 ≤ 1000 := l0
  have hl1 : n1 ≤ 1000 := l1
  obtain ⟨i0, hi0, hz0, hz1, hz2⟩ := info_parts Try.infoInt
  obtain ⟨w1, hmk, hown0, hg0⟩ := run_make_full (P := Try.prog) w w.heap.size 28 3 i0 _ 1 Try.underlying28 hi0 hz0 hz1 .i64 .i64 L (by rw [hz2]; omega) (by unfold maxLen; omega) (Nat.le_refl _)
  have hb0 : Below w.heap.size w w1 := (Below.refl _ _).grown hg0 (Nat.le_refl _) (fun k h => by cases h)
  rw [made_zeros] at hown0
  have hbk : Blk w1 w.heap.size 3 (List.replicate L 0) := by unfold Blk; rw [List.length_replicate]; exact hown0
  have hm0 : MulP xs0 xs1 (List.replicate L 0) L 0 := ⟨by simp, zeros_ok _, by rw [val_zeros]; simp [val]⟩
  have HZ : Hid (∀ P, MulP xs0 xs1 P L n0 → trim P = limbs (val xs0 * val xs1).toNat) := fun P h => by
    have hv := h.v
    rw [List.take_of_length_le (by omega)] at hv
    have := Int.mul_nonneg (val_nonneg k0.1) (val_nonneg k1.1)
    exact trim_eq h.ok (by omega)
  generalize limbs (val xs0 * val xs1).toNat = Z at HZ ⊢
  have HK0 := hide k0.1
  have HK1 := hide k1.1
  clear R0 R1 k0 k1 hi0 hz0 hz1 hz2 hg0 hown0
  have HLL := hide hL
  clear hL
  go_enter Try.func45, Try.ntmps45
  go_wp2_with fail
  go_loopw [17] (fun i wr => ∃ (k : Nat) (P : List Int), k ≤ n0 ∧ i = .int .i64 k ∧ Blk wr w.heap.size 3 P ∧ Hid (MulP xs0 xs1 P L k) ∧ Below w.heap.size w wr) (fun i _ => n0 - (intOf i).toNat)
  case atStart => exact ⟨0, _, Nat.zero_le _, rfl, hbk, hm0, hb0⟩
  case round =>
    clear hbk hb0 hmk hm0
    obtain ⟨k, P, hk, rfl, hbk, HM, hbl⟩ := hrel
    by_cases hlt : k < n0
    · obtain ⟨ad, hA, hb1, hc1⟩ := (hx0.below (hbl.mono hB)).int (k := k) (by omega)
      have hd := HK0.out xs0[k] (List.getElem_mem _)
      have hPl := HM.out.len
      have hLL := HLL.out
      have HN := hide (fun out => HM.out.next (out := out) HK0.out HK1.out (i := k) (by omega) (by omega))
      have HA := hide (impl_addTimes wr w.heap.size k (n1 + 1) (n1 + 1) B n1 c1 A1 (P.take k) ((P.drop k).take (n1 + 1)) (P.drop (k + (n1 + 1))) xs1 xs0[k]
        (by rw [← split3]; exact hbk) (by rw [List.length_take]; omega) (by rw [List.length_take, List.length_drop]; omega) e1 (by omega) (by omega)
        (((HM.out.ok.drop k).take _).take _) (((HM.out.ok.drop k).take _)).last HK1.out (by omega) (hx1.below (hbl.mono hB)) (by have := hbl.size; omega) (hx1.sep hB))
      have HB := hide hbl
      generalize xs0[k] = d at *
      clear hbk hbl hx1 hPl hLL hx0
      subst hA
      go_wp2_with fail
      rw [show k + n1 + 1 - k = n1 + 1 by omega]
      refine HA.out.mono ?_
      rintro e w2 ⟨v, out, rfl, hblk, hl, ht, hv, ha⟩
      have hN2 := hide (HN.out out (by omega) (by rwa [e1]) (by rw [hv, e1]))
      have hgs := hblk.lt
      have hb2 := HB.out.trans (ha.below (Nat.le_refl _) (by have := HB.out.size; omega))
      have HBK := hide hblk
      clear hv ht hl hblk ha HN HA
      go_wp2_with fail
      go_roundw
      case rel =>
        refine ⟨k + 1, _, by omega, by go_num, HBK.out, ?_, hb2⟩
        have := hN2.out
        rw [e1] at this
        exact this
      case measure => simp [intOf]; omega
    · obtain rfl : k = n0 := by omega
      have hPl := HM.out.len
      have HE := hide (HZ.out P HM.out)
      have HP := hide (impl_cutZeros wr w.heap.size (w.heap.size + 1) (some ⟨w.heap.size, 0, none⟩) L L P (by have := hbk.own L L (by omega); rwa [List.take_of_length_le (by omega)] at this) (Nat.le_refl _) (by have := HLL.out; unfold maxLen; omega))
      have hgl := hbk.lt
      clear hbk hx1 hx0 HM hPl
      go_wp2_with fail
      refine HP.out.mono ?_
      rintro e w' ⟨v2, rfl, o, _, rfl⟩
      rw [HE.out] at o
      have HO := hide (o.wider (lo' := w.heap.size) (hi' := wr.heap.size) (Nat.le_refl _) (by omega))
      clear o
      go_wp2_with fail
      go_ret
      exact ⟨_, rfl, HO.out, hbl⟩
set_option maxHeartbeats 1600000 in
theorem impl_NatMul (w : World) (B : Nat) (hB : B ≤ w.heap.size) (A0 : Option Addr) (n0 c0 : Nat) (xs0 : List Int) (R0 : RdI w B A0 n0 xs0) (A1 : Option Addr) (n1 c1 : Nat) (xs1 : List Int) (R1 : RdI w B A1 n1 xs1) :
    Calls Try.prog 22 #[.slice A0 n0 c0, .slice A1 n1 c1] w fun e w' => ∃ v, e = .returned v ∧ Own w' w.heap.size w'.heap.size 3 v (mulL xs0 xs1).length (iv (mulL xs0 xs1)) ∧ Below w.heap.size w w' := by
  have H0 := hide (impl_NatOk w B hB A0 n0 c0 xs0 R0)
  have H1 := hide (impl_NatOk w B hB A1 n1 c1 xs1 R1)
  by_cases h0 : natB xs0 = true
  · by_cases h1 : natB xs1 = true
    · obtain ⟨k0, l0⟩ := (natB_iff xs0).1 h0
      obtain ⟨k1, l1⟩ := (natB_iff xs1).1 h1
      have e0 := R0.1
      have e1 := R1.1
      have HS := hide (impl_multiplyLimbs w B hB A0 n0 c0 xs0 R0 A1 n1 c1 xs1 R1 k0 k1 (by omega) (by omega))
      have HE := hide (nat_product h0 h1)
      clear R0 R1 k0 k1 l0 l1 e0 e1
      generalize limbs (val xs0 * val xs1).toNat = L at HS HE
      go_enter Try.func22, Try.ntmps22
      go_wp2_with fail
      refine H0.out.mono ?_
      rintro e w' ⟨rfl, rfl⟩
      go_wp2_with fail
      refine H1.out.mono ?_
      rintro e w' ⟨rfl, rfl⟩
      go_wp2_with fail
      refine HS.out.mono ?_
      rintro e w1 ⟨v, rfl, o, hb⟩
      obtain ⟨A2, c2, rfl⟩ := o.form
      have HP := hide (impl_fitting w1 w.heap.size w1.heap.size A2 L.length c2 L o)
      have HB := hide hb
      clear o hb
      go_wp2_with fail
      refine HP.out.mono ?_
      rintro e w' ⟨v2, rfl, o, rfl⟩
      rw [HE.out] at o
      have HO := hide o
      clear o
      go_wp2_with fail
      go_ret
      exact ⟨_, rfl, HO.out, HB.out⟩
    · have h1' : natB xs1 = false := by simpa using h1
      have HE : Hid (mulL xs0 xs1 = []) := by show _ = _; rw [mulL, h1']; simp
      clear R0 R1 h1
      go_enter Try.func22, Try.ntmps22
      go_wp2_with fail
      refine H0.out.mono ?_
      rintro e w' ⟨rfl, rfl⟩
      go_wp2_with fail
      refine H1.out.mono ?_
      rintro e w' ⟨rfl, rfl⟩
      go_wp2_with fail
      go_ret
      exact ⟨_, rfl, by rw [HE.out]; exact Own.nil _ _ _ _, Below.refl _ _⟩
  · have h0' : natB xs0 = false := by simpa using h0
    have HE : Hid (mulL xs0 xs1 = []) := by show _ = _; rw [mulL, h0']; simp
    clear R0 R1 h0
    go_enter Try.func22, Try.ntmps22
    go_wp2_with fail
    refine H0.out.mono ?_
    rintro e w' ⟨rfl, rfl⟩
    go_wp2_with fail
    go_ret
    exact ⟨_, rfl, by rw [HE.out]; exact Own.nil _ _ _ _, Below.refl _ _⟩
end Go.Proofs.Ytdcceppednngjab
