/-
  The laws' helpers for lists of strings: markText, eqStringS, markStringS, heldStringS, toStringS, szStringS: contracts.
-/
import Derived.Test.YtpepbjmjgkgalaaMem
namespace Go.Proofs.Ytpepbjmjgkgalaa
open Go.RowKit
set_option linter.unusedVariables false

/-! ### markText -/
/-- the byte of a decimal digit -/
def dgt (n : Nat) : UInt8 := UInt8.ofNat (48 + n)
theorem dgt_val {n : Nat} (h : n < 10) : ((dgt n).toNat : Int) = 48 + n := by simp [dgt]; omega
/-- the digits of k in front of out -/
def markAcc (k : Nat) (out : List UInt8) : List UInt8 :=
  if h : k = 0 then out else markAcc (k / 10) (dgt (k % 10) :: out)
termination_by k
decreasing_by omega
def markL (k : Nat) : ByteArray := if k = 0 then ⟨#[109, 48]⟩ else ⟨(109 :: markAcc k []).toArray⟩
theorem markAcc_step {k : Nat} (h : 0 < k) (out : List UInt8) : markAcc k out = markAcc (k / 10) (dgt (k % 10) :: out) := by
  rw [markAcc]; rw [dif_neg (by omega)]
theorem markAcc_zero (out : List UInt8) : markAcc 0 out = out := by rw [markAcc]; simp

set_option maxHeartbeats 400000 in
theorem markText_any (k : Nat) (w : World) (hk : k ≤ 1000000000000) :
    Calls Try.prog 29 #[.int .i64 k] w fun e w' => e = .returned (.string (markL k)) ∧ Below w.heap.size w w' := by
  by_cases h0 : k = 0
  · subst h0
    go_enter Try.func29, Try.ntmps29
    go_wp2
    go_ret
    exact ⟨rfl, Below.refl _ _⟩
  · have h1 : 0 < k := by omega
    have HM : Hid (markL k = ⟨(109 :: markAcc k []).toArray⟩) := by show _ = _; rw [markL, if_neg h0]
    go_enter Try.func29, Try.ntmps29
    go_wp2
    go_loopw [0, 3] (fun i s wr => ∃ (j : Nat) (out : List UInt8), j ≤ k ∧ out.length + j ≤ k ∧ i = .int .i64 j ∧ s = .string ⟨out.toArray⟩ ∧ Hid (markAcc k [] = markAcc j out) ∧ Below w.heap.size w wr) (fun i _ _ => (intOf i).toNat)
    case atStart => exact ⟨k, [], Nat.le_refl _, by simp, rfl, rfl, rfl, Below.refl _ _⟩
    case round =>
      obtain ⟨j, out, hj, hl, rfl, rfl, H, hb⟩ := hrel
      by_cases hlt : 0 < j
      · have HN : Hid (markAcc k [] = markAcc (j / 10) (dgt (j % 10) :: out)) := H.out.trans (markAcc_step hlt out)
        clear H
        have hcv := conv_one (P := Try.prog) Try.underlying39 Try.underlying5 Try.underlying9 wr 1 (48 + (j : Int) % 10) (dgt (j % 10)) (by rw [dgt_val (by omega)]; omega)
        go_wp2
        go_roundw
        case rel => exact ⟨j / 10, dgt (j % 10) :: out, by omega, by simp; omega, by go_num, by rw [ByteArray.mk_append_mk]; rfl, HN, hb.alloc hb.size _⟩
        case measure => simp [intOf]; omega
      · obtain rfl : j = 0 := by omega
        have HE : Hid (markL k = ⟨(109 :: out).toArray⟩) := by show _ = _; rw [HM.out, H.out, markAcc_zero]
        clear H HM
        go_wp2
        go_ret
        exact ⟨ret_string (by rw [HE.out]; exact ByteArray.mk_append_mk [109] out), hb⟩

/-! ### eqStringS -/
def eqB (xs ys : List ByteArray) : Bool := decide (xs = ys)
set_option maxHeartbeats 400000 in
theorem eqStringS_any (A A' : Option Addr) (n m c c' : Nat) (xs ys : List ByteArray) (B : Nat) (w : World) (hn : xs.length = n) (hm : ys.length = m) (hx : Rd w B A (sv xs)) (hy : Rd w B A' (sv ys)) (hl : n ≤ maxLen) (hl' : m ≤ maxLen) :
    Calls Try.prog 15 #[.slice A n c, .slice A' m c'] w fun e w' => e = .returned (.bool (eqB xs ys)) ∧ ∃ d, w' = w.drewN d := by
  unfold maxLen at hl hl'
  by_cases hnm : n = m
  · subst hnm
    go_enter Try.func15, Try.ntmps15
    go_wp2
    go_loopw [5] (fun i wr => ∃ k d : Nat, k ≤ n ∧ i = .int .i64 k ∧ wr = w.drewN d ∧ Hid (∀ j (h : j < xs.length) (h' : j < ys.length), j < k → xs[j] = ys[j])) (fun i _ => n - (intOf i).toNat)
    case atStart => exact ⟨0, 0, Nat.zero_le _, rfl, rfl, fun j _ _ h => absurd h (Nat.not_lt_zero _)⟩
    case round =>
      obtain ⟨k, d, hk, rfl, rfl, H⟩ := hrel
      by_cases hlt : k < n
      · obtain ⟨ad, rfl, hb1, hc1⟩ := hx.str (k := k) (by omega)
        obtain ⟨ad', rfl, hb2, hc2⟩ := hy.str (k := k) (by omega)
        have hk0 : (0 : Int) ≤ (k : Int) := Int.natCast_nonneg _
        have hk1 : (k : Int) < (n : Int) := by omega
        by_cases he : xs[k] = ys[k]
        · have HN : Hid (∀ j (h : j < xs.length) (h' : j < ys.length), j < k + 1 → xs[j] = ys[j]) := fun j h h' hj => by
            by_cases e : j = k
            · subst e; exact he
            · exact H.out j h h' (by omega)
          have hq := str_eq he
          clear he H
          go_wp2_with fail
          go_quiet (fail)
          go_wp2
          go_roundw
          case rel => exact ⟨k + 1, d + nq, by omega, by go_num, rfl, HN⟩
          case measure => simp [intOf]; omega
        · have HB : Hid (eqB xs ys = false) := decide_eq_false fun e => by subst e; exact he rfl
          have hq := str_ne he
          clear he H
          go_wp2_with fail
          go_quiet (fail)
          go_wp2
          go_ret
          exact ⟨ret_bool HB.out.symm, d + nq, World.drewN_drewN _ _ _⟩
      · have HB : Hid (eqB xs ys = true) := decide_eq_true (List.ext_getElem (by omega) fun j h h' => H.out j h h' (by omega))
        clear H
        go_wp2
        go_ret
        exact ⟨ret_bool HB.out.symm, d, rfl⟩
  · have HB : Hid (eqB xs ys = false) := decide_eq_false fun e => by subst e; omega
    have hq : ((n : Int) != (m : Int)) = true := by simp; omega
    clear hnm
    go_enter Try.func15, Try.ntmps15
    go_wp2
    go_ret
    exact ⟨ret_bool HB.out.symm, 0, rfl⟩
theorem eqStringS_below (A A' : Option Addr) (n m c c' : Nat) (xs ys : List ByteArray) (B : Nat) (w : World) (hn : xs.length = n) (hm : ys.length = m) (hx : Rd w B A (sv xs)) (hy : Rd w B A' (sv ys)) (hl : n ≤ maxLen) (hl' : m ≤ maxLen) (b : Bool) (hb : Hid (eqB xs ys = b)) :
    Calls Try.prog 15 #[.slice A n c, .slice A' m c'] w fun e w' => e = .returned (.bool b) ∧ Below w.heap.size w w' :=
  (eqStringS_any A A' n m c c' xs ys B w hn hm hx hy hl hl').mono fun e w' ⟨he, d, hw⟩ => by
    subst hw; exact ⟨by rw [he, hb.out], below_drewN (Below.refl _ _) d⟩

/-! ### markStringS, heldStringS: the marks from k on -/
def marks (k n : Nat) : List ByteArray := (List.range n).map fun i => markL (k + i)
theorem marks_len (k n : Nat) : (marks k n).length = n := by simp [marks]
theorem marks_at {k n i : Nat} (h : i < n) : (marks k n)[i]'(by rw [marks_len]; exact h) = markL (k + i) := by simp [marks]
def markF (k : Nat) (i : Nat) : Value := .string (markL (k + i))
theorem marks_fill {k n : Nat} {ys : List Value} (h : ys.length = n) : fillTo (markF k) ys n = sv (marks k n) := by
  rw [fillTo_all h]; simp [sv, marks, markF, Function.comp_def]

set_option maxHeartbeats 400000 in
theorem markStringS_any (v : Value) (n k E base : Nat) (xs : List Value) (w : World) (hown : w.ownsRow base E 1 v n xs) (hb : base ≤ w.heap.size) (hl : n ≤ 1000000000) (hk : k ≤ 1000000000) :
    Calls Try.prog 16 #[v, .int .i64 k] w fun e w' => e = .returned (.int .i64 ((k + n : Nat) : Int)) ∧ w'.ownsRow base E 1 v n (sv (marks k n)) ∧ Below base w w' := by
  have hxl : xs.length = n := by have := hown.1; omega
  rcases own_form hown with ⟨rfl, rfl, rfl⟩ | ⟨g, c, rfl, hbg, hg⟩
  · go_enter Try.func16, Try.ntmps16
    go_wp2
    refine wp_loop_rounds 1 ?_
    rw [rounds_succ]
    go_wp2
    go_ret
    exact ⟨rfl, World.ownsRow_nil _ _ _ _, Below.refl _ _⟩
  · clear hg
    go_enter Try.func16, Try.ntmps16
    go_wp2
    go_loopw [1, 5] (fun q i wr => ∃ j : Nat, j ≤ n ∧ q = .int .i64 ((k + j : Nat) : Int) ∧ i = .int .i64 j ∧ wr.ownsRow base E 1 (.slice (some ⟨g, 0, none⟩) n c) n (fillTo (markF k) xs j) ∧ base ≤ wr.heap.size ∧ Below base w wr) (fun _ i _ => n - (intOf i).toNat)
    case atStart => exact ⟨0, Nat.zero_le _, rfl, rfl, by rw [fillTo_zero]; exact hown, hb, Below.refl _ _⟩
    case round =>
      clear hown
      obtain ⟨j, hj, rfl, rfl, hown, hbs, hbel⟩ := hrel
      by_cases hlt : j < n
      · go_wp2_with (go_at_call 29; refine (markText_any (k + j) _ (by omega)).mono ?_; rintro e w1 ⟨rfl, hb1⟩; have hown1 := own_grown hown hb1; have hfr1 := hown1.frozenAt j; obtain ⟨u1, hu1⟩ := own_cell hown1 hlt)
        obtain ⟨h1, h2⟩ := hown1.stored j (.string (markL (k + j)))
        rw [show Value.string (markL (k + j)) = markF k j from rfl, fillTo_step (by omega)] at h1
        go_roundw
        case rel => exact ⟨j + 1, by omega, by go_num, by go_num, h1, Nat.le_trans hbs (Nat.le_trans hb1.size h2.size), (hbel.trans (hb1.mono hbs)).setCell hbg _⟩
        case measure => simp [intOf]; omega
      · obtain rfl : j = n := by omega
        rw [marks_fill hxl] at hown
        go_wp2
        go_ret
        exact ⟨rfl, hown, hbel⟩

set_option maxHeartbeats 800000 in
theorem heldStringS_any (A : Option Addr) (n c k B : Nat) (w : World) (hx : Rd w B A (sv (marks k n))) (hB : B ≤ w.heap.size) (hl : n ≤ 1000000000) (hk : k ≤ 1000000000) :
    Calls Try.prog 17 #[.slice A n c, .int .i64 k] w fun e w' => e = .returned (.int .i64 ((k + n : Nat) : Int)) ∧ Below w.heap.size w w' := by
  go_enter Try.func17, Try.ntmps17
  go_wp2
  go_loopw [1, 5] (fun q i wr => ∃ j : Nat, j ≤ n ∧ q = .int .i64 ((k + j : Nat) : Int) ∧ i = .int .i64 j ∧ Below w.heap.size w wr) (fun _ i _ => n - (intOf i).toNat)
  case atStart => exact ⟨0, Nat.zero_le _, rfl, rfl, Below.refl _ _⟩
  case round =>
    obtain ⟨j, hj, rfl, rfl, hbel⟩ := hrel
    by_cases hlt : j < n
    · have hx' := hx.below (hbel.mono hB)
      obtain ⟨ad, hA, hb1, hc1⟩ := hx'.str (k := j) (by rw [marks_len]; exact hlt)
      rw [marks_at hlt] at hc1
      have hbs := hbel.size
      clear hx hx'
      subst hA
      have hj0 : (0 : Int) ≤ (j : Int) := Int.natCast_nonneg _
      have hj1 : (j : Int) < (n : Int) := by omega
      have hba : (ad.add j).block < wr.heap.size := by rw [add_block]; omega
      go_wp2_with fail
      go_region_held3 (fun w' => w'.cell? (ad.add j) = some (.string (markL (k + j))) ∧ Below wr.heap.size wr w')
        (first | exact ⟨hc1, (Below.refl _ _).drew⟩ | (go_split_ands; exact keepS (by assumption) (by assumption) hb2 hba))
        (first | (go_at_call 29; refine (markText_any (k + j) _ (by omega)).mono ?_; rintro e w1 ⟨rfl, hb2⟩))
      go_wp2
      go_roundw
      case rel => exact ⟨j + 1, by omega, by go_num, by go_num, hbel.trans ((undrew hb2).mono hbs)⟩
      case measure => simp [intOf]; omega
    · obtain rfl : j = n := by omega
      go_wp2
      go_ret
      exact ⟨rfl, hbel⟩

/-! ### toStringS: a copy in new memory -/
theorem Try.infoStr : (Try.prog.info? 9).map (fun i => (i.zero, i.size, i.bytes)) = some (some (.string ⟨#[]⟩), 1, 16) := by kernel_rfl
theorem Try.sliceStr : SliceOf Try.prog 23 9 1 16 := by
  obtain ⟨i0, hi0, hz0, hz1, hz2⟩ := info_parts Try.infoStr
  exact ⟨Try.underlying23, i0, _, hi0, hz0, hz1, hz2, rfl, by omega⟩
def strF (xs : List ByteArray) (i : Nat) : Value := .string (xs.getD i ByteArray.empty)
theorem str_fill {xs : List ByteArray} {ys : List Value} (h : ys.length = xs.length) : fillTo (strF xs) ys xs.length = sv xs := by
  rw [fillTo_all h]
  apply List.ext_getElem (by simp [sv])
  intro i h1 h2
  simp [sv] at h1 h2 ⊢
  simp [strF, List.getD, List.getElem?_eq_getElem h2]

set_option maxHeartbeats 400000 in
theorem toStringS_any (A : Option Addr) (n c B : Nat) (xs : List ByteArray) (w : World) (hn : xs.length = n) (hx : Rd w B A (sv xs)) (hB : B ≤ w.heap.size) (hl : n ≤ 1000000000) :
    Calls Try.prog 22 #[.slice A n c] w fun e w' => ∃ g, e = .returned (.slice (some ⟨g, 0, none⟩) n n) ∧ w'.ownsRow w.heap.size 9 1 (.slice (some ⟨g, 0, none⟩) n n) n (sv xs) ∧ Below w.heap.size w w' := by
  obtain ⟨i0, hi0, hz0, hz1, hz2⟩ := info_parts Try.infoStr
  obtain ⟨w1, hmk, hown0, hg0⟩ := run_make_full (P := Try.prog) w w.heap.size 23 9 i0 _ 1 Try.underlying23 hi0 hz0 hz1 .i64 .i64 n (by rw [hz2]; omega) (by unfold maxLen; omega) (Nat.le_refl _)
  have hb0 : Below w.heap.size w w1 := (Below.refl _ _).grown hg0 (Nat.le_refl _) (fun k h => by cases h)
  clear hi0 hz0 hz1 hz2 hg0
  generalize (madeCells (Value.string ⟨#[]⟩).cells (n * 1)).toList = ys at hown0
  have hyl : ys.length = n := by have := hown0.1; omega
  go_enter Try.func22, Try.ntmps22
  go_wp2
  go_loopw [4] (fun i wr => ∃ k : Nat, k ≤ n ∧ i = .int .i64 k ∧ wr.ownsRow w.heap.size 9 1 (.slice (some ⟨w.heap.size, 0, none⟩) n n) n (fillTo (strF xs) ys k) ∧ Below w.heap.size w wr) (fun i _ => n - (intOf i).toNat)
  case atStart => exact ⟨0, Nat.zero_le _, rfl, by rw [fillTo_zero]; exact hown0, hb0⟩
  case round =>
    clear hown0 hb0 hmk
    obtain ⟨k, hk, rfl, hown, hbel⟩ := hrel
    by_cases hlt : k < n
    · obtain ⟨ad, hA, hb1, hc1⟩ := (hx.below (hbel.mono hB)).str (k := k) (by omega)
      have hf1 := hown.frozenAt k
      obtain ⟨u1, hu1⟩ := own_cell hown hlt
      obtain ⟨h1, h2⟩ := hown.stored k (strF xs k)
      rw [fillTo_step (by omega)] at h1
      have hxk : strF xs k = .string xs[k] := by simp [strF, List.getD, List.getElem?_eq_getElem (show k < xs.length by omega)]
      rw [hxk] at h1
      have H1 : Hid (_ ∧ _) := ⟨h1, hbel.setCell (p := ⟨w.heap.size, k, none⟩) (Nat.le_refl _) (.string xs[k])⟩
      clear h1 h2 hxk hx
      subst hA
      go_wp2
      go_roundw
      case rel => exact ⟨k + 1, by omega, by go_num, H1.out.1, H1.out.2⟩
      case measure => simp [intOf]; omega
    · obtain rfl : k = n := by omega
      have hfill : fillTo (strF xs) ys k = sv xs := by rw [← hn]; exact str_fill (by omega)
      rw [hfill] at hown
      clear hfill hx hn
      go_wp2
      go_ret
      exact ⟨_, rfl, hown, hbel⟩

/-! ### szStringS: what a list takes, against a budget -/
def sumS (xs : List ByteArray) : Nat := (xs.map (·.size)).sum
theorem sumS_step {xs : List ByteArray} {k : Nat} (h : k < xs.length) : sumS (xs.take (k + 1)) = sumS (xs.take k) + xs[k].size := by
  unfold sumS
  rw [List.take_succ_eq_append_getElem h, List.map_append, List.sum_append]; simp
/-- at least 0, and then the list fits; or less than 0 -/
def Fits (n : Nat) (xs : List ByteArray) (left : Nat) (r : Int) : Prop := r ≤ left ∧ (0 ≤ r → r = left - n - sumS xs)
set_option maxHeartbeats 400000 in
theorem szStringS_any (A : Option Addr) (n c B left : Nat) (xs : List ByteArray) (w : World) (hn : xs.length = n) (hx : Rd w B A (sv xs)) (hl : n ≤ maxLen) (hleft : left ≤ 1048576) (hs : ∀ s ∈ xs, s.size ≤ maxLen) :
    Calls Try.prog 20 #[.slice A n c, .int .i64 left] w fun e w' => ∃ r, e = .returned (.int .i64 r) ∧ Fits n xs left r ∧ w = w' := by
  unfold maxLen at hl
  have hF : Hid (Fits n xs left (-1)) := ⟨by omega, fun h => by omega⟩
  by_cases h0 : left < n
  · go_enter Try.func20, Try.ntmps20
    go_wp2
    go_ret
    exact ⟨-1, rfl, hF.out, rfl⟩
  · go_enter Try.func20, Try.ntmps20
    go_wp2
    go_loop [1, 5] (fun q i => ∃ (k : Nat) (r : Int), k ≤ n ∧ 0 ≤ r ∧ r ≤ left ∧ q = .int .i64 r ∧ i = .int .i64 k ∧ Hid (r = left - n - sumS (xs.take k))) (fun _ i => n - (intOf i).toNat)
    case atStart => exact ⟨0, _, Nat.zero_le _, by omega, by omega, rfl, rfl, by show _ = _; simp [sumS]⟩
    case round =>
      obtain ⟨k, r, hk, hr0, hr1, rfl, rfl, H⟩ := hrel
      by_cases hlt : k < n
      · obtain ⟨ad, hA, hb1, hc1⟩ := hx.str (k := k) (by omega)
        have hsz := hs xs[k] (List.getElem_mem _)
        unfold maxLen at hsz
        have HN : Hid (r - xs[k].size = left - n - sumS (xs.take (k + 1))) := by show _ = _; rw [sumS_step (by omega), H.out]; omega
        clear hx H
        subst hA
        by_cases hlt2 : r - (xs[k].size : Int) < 0
        · go_wp2
          go_ret
          exact ⟨-1, rfl, hF.out, rfl⟩
        · go_wp2
          go_round
          case rel => exact ⟨k + 1, r - xs[k].size, by omega, by omega, by omega, rfl, by go_num, HN⟩
          case measure => simp [intOf]; omega
      · have HE : Hid (r = left - n - sumS xs) := by
          have := H.out
          rw [List.take_of_length_le (by omega)] at this
          exact this
        clear H
        go_wp2
        go_ret
        exact ⟨r, rfl, ⟨by omega, fun _ => HE.out⟩, rfl⟩
end Go.Proofs.Ytpepbjmjgkgalaa
