/-
  FnWords: what MakeNum and MakeText answer (bounds alone); a string is recovered from its parts; the law's walk.
-/
import Derived.Test.YtpepbjmjgkgalaaDoorDrawA
import Derived.Test.YtpepbjmjgkgalaaDoorParse
import Derived.Test.YtpepbjmjgkgalaaDoorJoinI
import Derived.Test.YtpepbjmjgkgalaaDoorLinesI
import Derived.Test.YtpepbjmjgkgalaaDoorNameI
namespace Go.Proofs.YtpepbjmjgkgalaaDoor
open Go.RowKit
set_option linter.unusedVariables false

/-! ### a string is recovered from its parts -/
theorem cut_one {c d : UInt8} : cutB ⟨#[c]⟩ (ByteArray.mk #[c]).size d = decide (c = d) := by
  unfold cutB
  apply decide_eq_decide.2
  constructor
  · rintro ⟨k, hk, _, h⟩
    have h1 : k < 1 := hk
    obtain rfl : k = 0 := by omega
    exact h
  · rintro rfl
    exact ⟨0, by show 0 < 1; omega, by show 0 < 1; omega, rfl⟩
theorem joinL_more (ps : List ByteArray) (x y z s : ByteArray) (h : z.data.toList = x.data.toList ++ y.data.toList) : joinL (ps ++ [z]) s = joinL (ps ++ [x]) s ++ y.data.toList := by
  by_cases hp : ps = []
  · subst hp; simp [joinL_one, h]
  · rw [joinL_snoc hp, joinL_snoc hp, h]; simp
theorem extract_snoc {s : ByteArray} {f i : Nat} (hf : f ≤ i) (hi : i < s.size) : (s.extract f (i + 1)).data.toList = (s.extract f i).data.toList ++ [s[i]] := by
  have hi' : i < s.data.toList.length := by rw [ba_size]; exact hi
  have e : s.data.toList.take (i + 1) = s.data.toList.take i ++ [s[i]] := by rw [List.take_succ_eq_append_getElem hi']; rfl
  rw [ByteArray.data_extract, ByteArray.data_extract, Array.toList_extract, Array.toList_extract, List.extract_eq_take_drop, List.extract_eq_take_drop, ← List.drop_take, ← List.drop_take, e, List.drop_append_of_le_length (by rw [List.length_take]; omega)]
theorem rejoin_take (s : ByteArray) (c : UInt8) : ∀ i, i ≤ s.size → joinL ((pieces s ⟨#[c]⟩ i).1 ++ [s.extract (pieces s ⟨#[c]⟩ i).2 i]) ⟨#[c]⟩ = s.data.toList.take i
  | 0, _ => by
    simp [pieces, joinL_one]
  | i + 1, hi => by
    have ih := rejoin_take s c i (by omega)
    have hle := (pieces_le s ⟨#[c]⟩ i).1
    have hi' : i < s.data.toList.length := by rw [ba_size]; omega
    have ht : s.data.toList.take (i + 1) = s.data.toList.take i ++ [s[i]'(by omega)] := by rw [List.take_succ_eq_append_getElem hi']; rfl
    by_cases hc : c = s[i]'(by omega)
    · have h1 : cutB ⟨#[c]⟩ (ByteArray.mk #[c]).size (s[i]'(by omega)) = true := by rw [cut_one]; simp [hc]
      rw [pieces_cut (by omega) h1, joinL_snoc (by simp), ih, ht]
      have h2 : (s.extract (i + 1) (i + 1)).data.toList = [] := by rw [ByteArray.data_extract, Array.toList_extract, List.extract_eq_take_drop]; simp
      show _ ++ [c] ++ (s.extract (i + 1) (i + 1)).data.toList = _
      rw [h2, hc]; simp
    · have h1 : cutB ⟨#[c]⟩ (ByteArray.mk #[c]).size (s[i]'(by omega)) = false := by rw [cut_one]; simp [hc]
      rw [pieces_none (by omega) h1, joinL_more _ (s.extract (pieces s ⟨#[c]⟩ i).2 i) ⟨#[s[i]'(by omega)]⟩ _ _ (extract_snoc hle (by omega)), ih, ht]
theorem rejoin (s : ByteArray) (c : UInt8) : joinB (splitL s ⟨#[c]⟩) ⟨#[c]⟩ = s := by
  have h := rejoin_take s c s.size (Nat.le_refl _)
  rw [joinB, splitL, h, List.take_of_length_le (by rw [ba_size]; exact Nat.le_refl _)]
theorem sumS_le_join (xs : List ByteArray) (s : ByteArray) : sumS xs ≤ (joinL xs s).length := by
  match xs with
  | [] => simp [sumS]
  | y :: r =>
    have h3 : Lib.lens (r.map (·.data.toList)) = sumS r := by
      simp only [Lib.lens, sumS, List.map_map]
      congr 1
    have h4 : sumS (y :: r) = y.size + sumS r := by simp [sumS]
    rw [joinL, List.map_cons, Lib.join_cons, List.length_append, Lib.joinTail_length, ba_size, h3, h4]
    omega
theorem sumS_split (s : ByteArray) (c : UInt8) : sumS (splitL s ⟨#[c]⟩) ≤ s.size := by
  have h := sumS_le_join (splitL s ⟨#[c]⟩) ⟨#[c]⟩
  have e : (joinL (splitL s ⟨#[c]⟩) ⟨#[c]⟩).length = s.size := by
    rw [splitL, rejoin_take s c s.size (Nat.le_refl _), List.take_of_length_le (by rw [ba_size]; exact Nat.le_refl _), ba_size]
  omega
theorem x1_name : nameB ⟨#[120, 49]⟩ = true := by decide
theorem two_lines : (linesL ⟨#[97, 10, 98, 10]⟩).length = 2 := by decide

/-! ### the drawn number and text -/
set_option maxHeartbeats 400000 in
theorem MakeNum_any (n c B : Nat) (A : Option Addr) (w : World) (hn : n ≤ 1099511627776) (hb : Bytes w B A n) (hB : B ≤ w.heap.size) :
    Calls Tryd.prog 6 #[.slice A n c, .int .i64 1] w fun e w' => ∃ r : Int, e = .returned (.int .i64 r) ∧ 0 ≤ r ∧ r ≤ 65535 ∧ Below w.heap.size w w' := by
  go_enter Tryd.func6, Tryd.ntmps6
  go_wp2_with fail
  refine (l31New_any n c B 1 A w hn (by omega) hb hB).mono ?_
  rintro e w1 ⟨rfl, hc1, hb1, hs1⟩
  have HS := hide hs1
  clear hs1
  go_wp2_with fail
  refine (l01Byte_any w.heap.size n c A B w1 (by omega) hc1 (hb.below (hb1.mono hB)) hB).mono ?_
  rintro e w2 ⟨r1, rfl, h10, h11, hc2, ho1⟩
  have hb2 := hb1.trans (ho1.below (Nat.le_refl w.heap.size) (by have := HS.out; omega))
  go_wp2_with fail
  refine (l01Byte_any w.heap.size n c A B w2 (by omega) hc2 (hb.below (hb2.mono hB)) hB).mono ?_
  rintro e w3 ⟨r2, rfl, h20, h21, hc3, ho2⟩
  have hb3 := hb2.trans (ho2.below (Nat.le_refl w.heap.size) hb2.size)
  go_wp2_with fail
  go_ret
  exact ⟨_, rfl, by omega, by omega, hb3⟩

set_option maxHeartbeats 400000 in
theorem l01Str_any (G n c m cl : Nat) (A Al : Option Addr) (B BL : Nat) (xs : List ByteArray) (w : World) (hn : n ≤ 1099511627776) (hm : 1 ≤ m) (hm2 : m ≤ 1000000) (hxl : xs.length = m) (hc : CurAt w G A n c) (hb : Bytes w B A n) (hB : B ≤ G)
    (hx : Rd w BL Al (sv xs)) (hne : ∀ ad, Al = some ad → ad.block ≠ G) :
    Calls Tryd.prog 22 #[.pointer (some ⟨G, 0, none⟩), .slice Al m cl] w fun e w' => ∃ x, x ∈ xs ∧ e = .returned (.string x) ∧ CurAt w' G A n c ∧ Only G w w' := by
  go_enter Tryd.func22, Tryd.ntmps22
  go_wp2_with fail
  refine (l01Below_any G n c m A B w hn hm (by omega) hc hb hB).mono ?_
  rintro e w1 ⟨r, rfl, hr, hc1, ho⟩
  obtain ⟨ad, hA, hab, hce⟩ := hx.str (k := r) (by omega)
  have hce1 := ho.cell (by rw [add_block]; exact hne ad hA) hce
  have hr0 : (0 : Int) ≤ (r : Int) := Int.natCast_nonneg _
  have hr1 : (r : Int) < (m : Int) := by omega
  have hmem : xs[r]'(by omega) ∈ xs := List.getElem_mem _
  clear hx hne hce
  subst hA
  go_wp2_with fail
  go_ret
  exact ⟨_, hmem, rfl, hc1, ho⟩

set_option maxHeartbeats 800000 in
theorem MakeText_any (n c B : Nat) (A : Option Addr) (w : World) (hn : n ≤ 1099511627776) (hb : Bytes w B A n) (hB : B ≤ w.heap.size) :
    Calls Tryd.prog 9 #[.slice A n c] w fun e w' => ∃ s : ByteArray, e = .returned (.string s) ∧ s.size ≤ 100 ∧ Below w.heap.size w w' := by
  go_enter Tryd.func9, Tryd.ntmps9
  go_wp2_with fail
  refine (l01New_any n c B A w hn hb hB).mono ?_
  rintro e w1 ⟨rfl, hc1, hb1, hs1⟩
  have HS := hide hs1
  clear hs1
  go_wp2_with fail
  refine (l01Below_any w.heap.size n c 8 A B w1 hn (by omega) (by omega) hc1 (hb.below (hb1.mono hB)) hB).mono ?_
  rintro e w2 ⟨q, rfl, hq, hc2, ho1⟩
  have hb2 := hb1.trans (ho1.below (Nat.le_refl w.heap.size) (by have := HS.out; omega))
  have hs2 : w.heap.size + 1 ≤ w2.heap.size := by have := HS.out; have := ho1.2; omega
  clear ho1
  go_wp2_with fail
  go_loopw [4, 5] (fun t i wr => ∃ (k : Nat) (s : ByteArray), k ≤ 8 ∧ i = .int .i64 k ∧ t = .string s ∧ s.size + 2 * k ≤ 16 ∧ CurAt wr w.heap.size A n c ∧ w.heap.size + 1 ≤ wr.heap.size ∧ Below w.heap.size w wr) (fun _ i _ => (intOf i).toNat)
  case atStart => exact ⟨q, ⟨#[]⟩, by omega, rfl, rfl, by show 0 + _ ≤ _; omega, hc2, hs2, hb2⟩
  case round =>
    clear hc2 hs2 hb2 hc1 hb1 HS
    obtain ⟨k, s, hk, rfl, rfl, hsz, hc, hs, hbl⟩ := hrel
    by_cases hlt : 0 < k
    · have hrd : Rd (wr.alloc (.cells #[.string ⟨#[97]⟩, .string ⟨#[98, 99]⟩, .string ⟨#[32]⟩, .string ⟨#[44]⟩, .string ⟨#[120, 49]⟩] 9)) (wr.heap.size + 1) (some ⟨wr.heap.size, 0, none⟩) (sv [⟨#[97]⟩, ⟨#[98, 99]⟩, ⟨#[32]⟩, ⟨#[44]⟩, ⟨#[120, 49]⟩]) := by
        refine .inr ⟨_, rfl, Nat.lt_succ_self _, fun j u hu => ?_⟩
        have e : (⟨wr.heap.size, 0, none⟩ : Addr).add j = ⟨wr.heap.size, j, none⟩ := by unfold Addr.add; split <;> simp_all
        rw [e, World.cell?_alloc_mark]
        simpa [sv] using hu
      have hcA := hc.below ((Below.refl wr.heap.size wr).alloc (Nat.le_refl _) (.cells #[.string ⟨#[97]⟩, .string ⟨#[98, 99]⟩, .string ⟨#[32]⟩, .string ⟨#[44]⟩, .string ⟨#[120, 49]⟩] 9)) hc.lt
      have hbA := hbl.alloc (by omega) (.cells #[.string ⟨#[97]⟩, .string ⟨#[98, 99]⟩, .string ⟨#[32]⟩, .string ⟨#[44]⟩, .string ⟨#[120, 49]⟩] 9)
      have HC := hide (l01Str_any w.heap.size n c 5 5 A (some ⟨wr.heap.size, 0, none⟩) B _ _ _ hn (by omega) (by omega) rfl hcA (hb.below (hbA.mono hB)) hB hrd (fun ad h => by injection h with h; subst h; show wr.heap.size ≠ w.heap.size; omega))
      clear hrd
      go_wp2_with fail
      refine HC.out.mono ?_
      rintro e w3 ⟨x, hx, rfl, hc3, ho⟩
      have hx2 : x.size ≤ 2 := by
        simp only [List.mem_cons, List.not_mem_nil, or_false] at hx
        rcases hx with rfl | rfl | rfl | rfl | rfl <;> decide
      have hb3 := hbA.trans (ho.below (Nat.le_refl w.heap.size) (by simp; omega))
      have hs3 : w.heap.size + 1 ≤ w3.heap.size := by have := ho.2; simp at this; omega
      clear HC hx ho hcA hbA
      go_wp2_with fail
      have hz : (s ++ x).size = s.size + x.size := ByteArray.size_append
      go_roundw
      case rel => exact ⟨k - 1, _, by omega, by go_num, rfl, by omega, hc3, hs3, hb3⟩
      case measure => simp [intOf]; omega
    · go_wp2_with fail
      go_ret
      exact ⟨s, rfl, by omega, hbl⟩

theorem itoaB_size {n : Int} (h1 : -100000 ≤ n) (h2 : n ≤ 100000) : (itoaB n).size ≤ 1048576 := by
  rcases itoaB_shape n with ⟨_, hd⟩ | ⟨_, hd⟩
  · have := dec_len n.natAbs
    rw [← ba_size, hd, List.length_cons]; omega
  · have := dec_len n.natAbs
    rw [← ba_size, hd]; omega

set_option maxHeartbeats 1600000 in
theorem FnWords_walk (w : World) (a0 : Option Addr) (len0 cap0 : Nat) (z0 : List Int) (h0 : IsRow .u8 w a0 len0 cap0 z0) (hT : PowTab w) (hE : Sent w "strconv.ErrSyntax") (hR : Sent w "strconv.ErrRange") :
    Calls Tryd.prog 3 #[.slice a0 len0 cap0] w fun e w' => e = .returned (.bool true) ∧ Below w.heap.size w w' := by
  obtain ⟨hby, hlm⟩ := h0.bytes
  clear h0
  unfold maxLen at hlm
  by_cases h : 1048576 < len0
  · clear hE hR hT hby
    go_enter Tryd.func3, Tryd.ntmps3
    go_wp2_with fail
    go_ret
    exact ⟨rfl, Below.refl _ _⟩
  · have hlt := hT.lt
    have HT := hide hT
    have HE := hide hE
    have HR := hide hR
    have HB := hide hby
    clear hT hE hR hby
    go_enter Tryd.func3, Tryd.ntmps3
    go_wp2_with fail
    refine (MakeNum_any len0 cap0 w.heap.size a0 w (by omega) HB.out (Nat.le_refl _)).mono ?_
    rintro e w1 ⟨r, rfl, hr0, hr1, hb1⟩
    have hwf := wf_of (x := r - 30000) (by omega) (by omega)
    have HP := hide (parse_some (n := r - 30000) (by omega) (by omega) rfl)
    have HZ := hide (itoaB_size (n := r - 30000) (by omega) (by omega))
    have hT1 := hide (HT.out.below hb1 hlt)
    go_wp2_with fail
    refine (impl_FormatInt (r - 30000) w1 hwf hT1.out).mono ?_
    rintro e w2 ⟨rfl, hb2⟩
    have hb12 := hb1.trans (hb2.mono hb1.size)
    go_wp2_with fail
    refine (impl_ParseInt (itoaB (r - 30000)) w2 HZ.out (HT.out.below hb12 hlt) (HE.out.below Tryd.gSyn hb12 (by have := Tryd.gltS; omega)) (HR.out.below Tryd.gRng hb12 (by have := Tryd.gltS; omega))).mono ?_
    rw [HP.out.1, HP.out.2]
    rintro e w3 ⟨rfl, hb3⟩
    have hb13 := hb12.trans (hb3.mono hb12.size)
    clear hb1 hb2 hb3 hb12 hT1
    go_wp2_with fail
    refine (MakeText_any len0 cap0 w.heap.size a0 w3 (by omega) (HB.out.below hb13) hb13.size).mono ?_
    rintro e w4 ⟨s, rfl, hs, hb4⟩
    have hb14 := hb13.trans (hb4.mono hb13.size)
    clear hb13 hb4
    have hq := str_eq (rfl : s = s)
    go_wp2_with fail
    refine (impl_SplitAny s ⟨#[32]⟩ w4 (by omega) (by decide)).mono ?_
    rintro e w5 ⟨v, rfl, hown, hb5⟩
    have hb15 := hb14.trans (hb5.mono hb14.size)
    have hj := hide (rejoin s 32)
    have hsl := splitL_len s ⟨#[32]⟩
    have hsum := sumS_split s 32
    rcases own_form hown with ⟨rfl, h0, _⟩ | ⟨g, c, rfl, _, _⟩
    · omega
    have hncap : (splitL s ⟨#[32]⟩).length ≤ c := by
      rcases hown.2 with ⟨h', _⟩ | ⟨g', c', cur, hv, _, _, hnc, _⟩
      · cases h'
      · injection hv with _ _ h3; omega
    have hJ := hide (impl_Join g (splitL s ⟨#[32]⟩).length c _ (splitL s ⟨#[32]⟩) ⟨#[32]⟩ w5 _ hown (by omega) (by omega) (by decide) hncap)
    clear hown hb14 hb5 hsl hsum hncap
    go_wp2_with fail
    refine hJ.out.mono ?_
    rw [hj.out]
    rintro e w6 ⟨rfl, hb6⟩
    have hb16 := hb15.trans (hb6.mono hb15.size)
    clear hb15 hb6 hJ
    have hnm := x1_name
    have hIN := hide (impl_IsName ⟨#[120, 49]⟩ w6 (by decide))
    go_wp2_with fail
    refine hIN.out.mono ?_
    rw [x1_name]
    rintro e w7 ⟨rfl, hb7⟩
    have hb17 := hb16.trans (hb7.mono hb16.size)
    clear hb16 hb7 hIN hnm
    have hSL := hide (impl_SplitLines ⟨#[97, 10, 98, 10]⟩ w7 (by decide))
    go_wp2_with fail
    refine hSL.out.mono ?_
    rw [two_lines]
    rintro e w8 ⟨v8, rfl, hown8, hb8⟩
    have hb18 := hb17.trans (hb8.mono hb17.size)
    rcases own_form hown8 with ⟨rfl, h0, _⟩ | ⟨g8, c8, rfl, _, _⟩
    · cases h0
    clear hown8 hSL hb17 hb8
    go_wp2_with fail
    go_ret
    exact ⟨rfl, hb18⟩
end Go.Proofs.YtpepbjmjgkgalaaDoor
