/-
  The reference's natural numbers: contracts (4): l02Trim on the call's own, l02Sub, NatSub.
-/
import Derived.Test.YtcainjgcfbgddaaNatR3
namespace Go.Proofs.Ytcainjgcfbgddaa
open Go.RowKit
set_option linter.unusedVariables false

set_option maxHeartbeats 400000 in
theorem spec_TrimOwn (w : World) (lo n c : Nat) (A : Option Addr) (xs : List Int) (ho : w.ownsRow lo 3 1 (.slice A n c) n (iv xs)) :
    Calls Try.prog 78 #[.slice A n c] w fun e w' => ∃ v, e = .returned v ∧ w.ownsRow lo 3 1 v (trim xs).length (iv (trim xs)) ∧ w = w' := by
  have hn : xs.length = n := by have := ho.1; rw [iv_len] at this; omega
  have hcc : n ≤ c ∧ c ≤ maxLen := by
    rcases ho.2 with ⟨h', h0⟩ | ⟨g', c', cur, hv, _, _, hnc, hcm, _⟩
    · injection h' with h1 h2 h3; subst h3; unfold maxLen; omega
    · injection hv with h1 h2 h3; subst h3; exact ⟨hnc, hcm⟩
  refine (spec_Trim w w.heap.size A n c xs hn (own_rd ho) hcc.1 hcc.2).mono ?_
  rintro e w' ⟨m, rfl, hm, hT, rfl⟩
  have hml : (trim xs).length = m := by rw [hT, List.length_take]; omega
  refine ⟨_, rfl, ?_, rfl⟩
  rw [hml, hT]
  rcases own_form ho with ⟨h', h0, hx0⟩ | ⟨g, c', h', _, _⟩
  · injection h' with h1 h2 h3
    subst h1 h3
    obtain rfl : m = 0 := by omega
    exact World.ownsRow_nil _ _ _ _
  · injection h' with h1 h2 h3
    subst h1 h3
    have := own_cut ho hm
    rwa [show iv (xs.take m) = (iv xs).take m by simp [iv, List.map_take]]
set_option maxHeartbeats 1200000 in
theorem spec_Sub (w : World) (B : Nat) (hB : B ≤ w.heap.size) (A A' : Option Addr) (n m c c' : Nat) (xs ys : List Int) (hn : xs.length = n) (hm : ys.length = m) (hx : Rd w B A (iv xs)) (hy : Rd w B A' (iv ys)) (hl : n ≤ 100000000) (hcx : Canon xs) (hcy : Canon ys) (hle : val ys ≤ val xs) :
    Calls Try.prog 64 #[.slice A n c, .slice A' m c'] w fun e w' => ∃ v, e = .returned v ∧ w'.ownsRow w.heap.size 3 1 v (limbs (val xs - val ys).toNat).length (iv (limbs (val xs - val ys).toNat)) ∧ Below w.heap.size w w' := by
  have hown0 := World.ownsRow_made (base := w.heap.size) (e := 3) (size := 1) w #[] 0 (Nat.le_refl _) (by unfold maxLen; omega) rfl
  have hb0 := (Below.refl w.heap.size w).alloc (Nat.le_refl _) (.cells #[] 3)
  have hlx := hcx.1
  have hly := hcy.1
  have hmn : m ≤ n := by
    rcases Nat.lt_or_ge n m with h | h
    · have := val_lt_len hcx.1 hcy (by omega); omega
    · exact h
  have HD := hide (fun acc q (S : Dif xs ys acc xs.length q) hq => S.done (by omega) hq hle)
  clear hcx hcy hle
  go_enter Try.func64, Try.ntmps64
  go_wp2_with fail
  go_loopw [5, 6, 12] (fun v cq i wr => ∃ (k : Nat) (q : Int) (acc : List Int), k ≤ n ∧ i = .int .i64 k ∧ cq = .int .i64 q ∧ 0 ≤ q ∧ q ≤ 1 ∧ wr.ownsRow w.heap.size 3 1 v k (iv acc) ∧ w.heap.size ≤ wr.heap.size ∧ Below w.heap.size w wr ∧ Hid (Dif xs ys acc k q)) (fun _ _ i _ => n - (intOf i).toNat)
  case atStart => exact ⟨0, 0, [], Nat.zero_le _, rfl, rfl, by omega, by omega, hown0, by simp, hb0, ⟨rfl, Limbs.nil, by simp [val]⟩⟩
  case round =>
    clear hown0 hb0
    obtain ⟨k, q, acc, hk, rfl, rfl, hq0, hq1, hown, hsz, hbl, S⟩ := hrel
    have hrx := hx.below (hbl.mono hB)
    have hry := hy.below (hbl.mono hB)
    by_cases hkn : k < n
    · obtain ⟨ad, hA, hb1, hc1⟩ := hrx.int (k := k) (by omega)
      obtain ⟨hx0, hx1⟩ := hlx xs[k] (List.getElem_mem _)
      have gx := getD_in (l := xs) (k := k) (by omega)
      generalize xs[k] = x at *
      by_cases hkm : k < m
      · obtain ⟨ad', hA', hb2, hc2⟩ := hry.int (k := k) (by omega)
        obtain ⟨hy0, hy1⟩ := hly ys[k] (List.getElem_mem _)
        have gy := getD_in (l := ys) (k := k) (by omega)
        generalize ys[k] = y at *
        by_cases hneg : x - q - y < 0
        · skip
          have HS := hide (S.out.next gx gy (d := x - q - y + 1000000000) (q' := 1) (by omega) (by omega) (by omega))
          clear gx gy S hrx hry hx hy hlx hly
          subst hA hA'
          go_wp2_with (at_builtin; refine wpList_append1 Try.sliceInt rfl _ _ rfl wr w.heap.size _ _ _ hown rfl #[.int .i64 (x - q - y + 1000000000)] 1 rfl rfl (by simp [Value.oneCell']) (by omega) (by omega) hsz ?_; intro v' w1 hown1 hb4)
          have hs1 := hb4.size
          go_roundw
          case rel => exact ⟨k + 1, 1, acc ++ [x - q - y + 1000000000], by omega, by go_num, rfl, by omega, by omega, by simpa [iv] using hown1, by omega, hbl.trans hb4, HS⟩
          case measure => simp [intOf]; omega
        · skip
          have HS := hide (S.out.next gx gy (d := x - q - y) (q' := 0) (by omega) (by omega) (by omega))
          clear gx gy S hrx hry hx hy hlx hly
          subst hA hA'
          go_wp2_with (at_builtin; refine wpList_append1 Try.sliceInt rfl _ _ rfl wr w.heap.size _ _ _ hown rfl #[.int .i64 (x - q - y)] 1 rfl rfl (by simp [Value.oneCell']) (by omega) (by omega) hsz ?_; intro v' w1 hown1 hb4)
          have hs1 := hb4.size
          go_roundw
          case rel => exact ⟨k + 1, 0, acc ++ [x - q - y], by omega, by go_num, rfl, by omega, by omega, by simpa [iv] using hown1, by omega, hbl.trans hb4, HS⟩
          case measure => simp [intOf]; omega
      · have gy := getD_out (l := ys) (k := k) (by omega)
        by_cases hneg : x - q < 0
        · skip
          have HS := hide (S.out.next gx gy (d := x - q + 1000000000) (q' := 1) (by omega) (by omega) (by omega))
          clear gx gy S hrx hry hx hy hlx hly
          subst hA
          go_wp2_with (at_builtin; refine wpList_append1 Try.sliceInt rfl _ _ rfl wr w.heap.size _ _ _ hown rfl #[.int .i64 (x - q + 1000000000)] 1 rfl rfl (by simp [Value.oneCell']) (by omega) (by omega) hsz ?_; intro v' w1 hown1 hb4)
          have hs1 := hb4.size
          go_roundw
          case rel => exact ⟨k + 1, 1, acc ++ [x - q + 1000000000], by omega, by go_num, rfl, by omega, by omega, by simpa [iv] using hown1, by omega, hbl.trans hb4, HS⟩
          case measure => simp [intOf]; omega
        · skip
          have HS := hide (S.out.next gx gy (d := x - q) (q' := 0) (by omega) (by omega) (by omega))
          clear gx gy S hrx hry hx hy hlx hly
          subst hA
          go_wp2_with (at_builtin; refine wpList_append1 Try.sliceInt rfl _ _ rfl wr w.heap.size _ _ _ hown rfl #[.int .i64 (x - q)] 1 rfl rfl (by simp [Value.oneCell']) (by omega) (by omega) hsz ?_; intro v' w1 hown1 hb4)
          have hs1 := hb4.size
          go_roundw
          case rel => exact ⟨k + 1, 0, acc ++ [x - q], by omega, by go_num, rfl, by omega, by omega, by simpa [iv] using hown1, by omega, hbl.trans hb4, HS⟩
          case measure => simp [intOf]; omega
    · obtain rfl : k = n := by omega
      have HV : Hid (trim acc = limbs (val xs - val ys).toNat) := by
        have S' := S.out
        rw [← hn] at S'
        have hv := HD.out acc q S' (by omega)
        have h0 := val_nonneg S'.2.1
        exact trim_eq S'.2.1 (by omega)
      have hal : acc.length = k := S.out.1
      have hown' : wr.ownsRow w.heap.size 3 1 u5 acc.length (iv acc) := by rw [hal]; exact hown
      obtain ⟨A2, c2, rfl, _, _, _⟩ := own_reads hown'
      have HT := hide (spec_TrimOwn wr _ _ c2 A2 acc hown')
      clear hal hown hown' S hrx hry hx hy hlx hly HD
      have HB := hide hbl
      clear hbl
      rw [HV.out] at HT
      go_wp2_with fail
      refine HT.out.mono ?_
      rintro e w' ⟨v2, rfl, hown2, rfl⟩
      go_wp2_with fail
      go_ret
      exact ⟨_, rfl, hown2, HB.out⟩
end Go.Proofs.Ytcainjgcfbgddaa
