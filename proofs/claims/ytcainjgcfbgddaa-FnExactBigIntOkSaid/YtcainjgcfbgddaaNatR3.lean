/-
  The reference's natural numbers: contracts (3): l02Add, NatAdd.
-/
import Derived.Test.YtcainjgcfbgddaaNatR2
namespace Go.Proofs.Ytcainjgcfbgddaa
open Go.RowKit
set_option linter.unusedVariables false

set_option maxHeartbeats 3200000 in
theorem spec_Add (w : World) (B : Nat) (hB : B ≤ w.heap.size) (A A' : Option Addr) (n m c c' : Nat) (xs ys : List Int) (hn : xs.length = n) (hm : ys.length = m) (hx : Rd w B A (iv xs)) (hy : Rd w B A' (iv ys)) (hl : n ≤ 100000000) (hl' : m ≤ 100000000) (hlx : Limbs xs) (hly : Limbs ys) :
    Calls Try.prog 63 #[.slice A n c, .slice A' m c'] w fun e w' => ∃ v acc, e = .returned v ∧ w'.ownsRow w.heap.size 3 1 v acc.length (iv acc) ∧ Limbs acc ∧ val acc = val xs + val ys ∧ acc.length ≤ n + m + 1 ∧ Below w.heap.size w w' := by
  have hown0 := World.ownsRow_made (base := w.heap.size) (e := 3) (size := 1) w #[] 0 (Nat.le_refl _) (by unfold maxLen; omega) rfl
  have hb0 := (Below.refl w.heap.size w).alloc (Nat.le_refl _) (.cells #[] 3)
  go_enter Try.func63, Try.ntmps63
  go_wp2_with fail
  go_loopw [5, 6, 7] (fun v cq i wr => ∃ (k : Nat) (q : Int) (acc : List Int), i = .int .i64 k ∧ cq = .int .i64 q ∧ 0 ≤ q ∧ q ≤ 1 ∧ k ≤ n + m + 1 ∧ (k ≤ n + m ∨ q = 0) ∧ wr.ownsRow w.heap.size 3 1 v k (iv acc) ∧ w.heap.size ≤ wr.heap.size ∧ Below w.heap.size w wr ∧ Hid (Sum xs ys acc k q)) (fun _ _ i _ => n + m + 2 - (intOf i).toNat)
  case atStart => exact ⟨0, 0, [], rfl, rfl, by omega, by omega, by omega, by omega, hown0, by simp, hb0, ⟨rfl, Limbs.nil, by simp [val]⟩⟩
  case round =>
    clear hown0 hb0
    obtain ⟨k, q, acc, rfl, rfl, hq0, hq1, hk, hkq, hown, hsz, hbl, S⟩ := hrel
    have hrx := hx.below (hbl.mono hB)
    have hry := hy.below (hbl.mono hB)
    by_cases hkn : k < n
    · by_cases hkm : k < m
      · obtain ⟨ad, hA, hb1, hc1⟩ := hrx.int (k := k) (by omega)
        have hxb := hlx xs[k] (List.getElem_mem _)
        have gx := getD_in (l := xs) (k := k) (by omega)
        obtain ⟨ad', hA', hb2, hc2⟩ := hry.int (k := k) (by omega)
        have hyb := hly ys[k] (List.getElem_mem _)
        have gy := getD_in (l := ys) (k := k) (by omega)
        have HS := hide (S.out.next gx gy (N := q + xs[k] + ys[k]) (by omega) (by omega))
        generalize xs[k] = x at *
        generalize ys[k] = y at *
        clear gx gy S hrx hry hx hy hlx hly
        subst hA hA'
        obtain ⟨hx0, hx1⟩ := hxb
        obtain ⟨hy0, hy1⟩ := hyb
        go_wp2_with (at_builtin; refine wpList_append1 Try.sliceInt rfl _ _ rfl wr w.heap.size _ _ _ hown rfl #[.int .i64 ((q + x + y) % 1000000000)] 1 rfl rfl (by simp [Value.oneCell']) (by omega) (by omega) hsz ?_; intro v' w1 hown1 hb4)
        have hs1 := hb4.size
        go_roundw
        case rel => exact ⟨k + 1, (q + x + y) / 1000000000, acc ++ [(q + x + y) % 1000000000], by go_num, rfl, by omega, by omega, by omega, by omega, by simpa [iv] using hown1, by omega, hbl.trans hb4, HS⟩
        case measure => simp [intOf]; omega
      · obtain ⟨ad, hA, hb1, hc1⟩ := hrx.int (k := k) (by omega)
        have hxb := hlx xs[k] (List.getElem_mem _)
        have gx := getD_in (l := xs) (k := k) (by omega)
        have gy := getD_out (l := ys) (k := k) (by omega)
        have HS := hide (S.out.next gx gy (N := q + xs[k]) (by omega) (by omega))
        generalize xs[k] = x at *
        clear gx gy S hrx hry hx hy hlx hly
        subst hA
        obtain ⟨hx0, hx1⟩ := hxb
        go_wp2_with (at_builtin; refine wpList_append1 Try.sliceInt rfl _ _ rfl wr w.heap.size _ _ _ hown rfl #[.int .i64 ((q + x) % 1000000000)] 1 rfl rfl (by simp [Value.oneCell']) (by omega) (by omega) hsz ?_; intro v' w1 hown1 hb4)
        have hs1 := hb4.size
        go_roundw
        case rel => exact ⟨k + 1, (q + x) / 1000000000, acc ++ [(q + x) % 1000000000], by go_num, rfl, by omega, by omega, by omega, by omega, by simpa [iv] using hown1, by omega, hbl.trans hb4, HS⟩
        case measure => simp [intOf]; omega
    · by_cases hkm : k < m
      · have gx := getD_out (l := xs) (k := k) (by omega)
        obtain ⟨ad', hA', hb2, hc2⟩ := hry.int (k := k) (by omega)
        have hyb := hly ys[k] (List.getElem_mem _)
        have gy := getD_in (l := ys) (k := k) (by omega)
        have HS := hide (S.out.next gx gy (N := q + ys[k]) (by omega) (by omega))
        generalize ys[k] = y at *
        clear gx gy S hrx hry hx hy hlx hly
        subst hA'
        obtain ⟨hy0, hy1⟩ := hyb
        go_wp2_with (at_builtin; refine wpList_append1 Try.sliceInt rfl _ _ rfl wr w.heap.size _ _ _ hown rfl #[.int .i64 ((q + y) % 1000000000)] 1 rfl rfl (by simp [Value.oneCell']) (by omega) (by omega) hsz ?_; intro v' w1 hown1 hb4)
        have hs1 := hb4.size
        go_roundw
        case rel => exact ⟨k + 1, (q + y) / 1000000000, acc ++ [(q + y) % 1000000000], by go_num, rfl, by omega, by omega, by omega, by omega, by simpa [iv] using hown1, by omega, hbl.trans hb4, HS⟩
        case measure => simp [intOf]; omega
      · by_cases hq : 0 < q
        · have gx := getD_out (l := xs) (k := k) (by omega)
          have gy := getD_out (l := ys) (k := k) (by omega)
          have HS := hide (S.out.next gx gy (N := q) (by omega) (by omega))
          clear gx gy S hrx hry hx hy hlx hly
          go_wp2_with (at_builtin; refine wpList_append1 Try.sliceInt rfl _ _ rfl wr w.heap.size _ _ _ hown rfl #[.int .i64 ((q) % 1000000000)] 1 rfl rfl (by simp [Value.oneCell']) (by omega) (by omega) hsz ?_; intro v' w1 hown1 hb4)
          have hs1 := hb4.size
          go_roundw
          case rel => exact ⟨k + 1, (q) / 1000000000, acc ++ [(q) % 1000000000], by go_num, rfl, by omega, by omega, by omega, by omega, by simpa [iv] using hown1, by omega, hbl.trans hb4, HS⟩
          case measure => simp [intOf]; omega
        · obtain rfl : q = 0 := by omega
          obtain ⟨s1, s2, s3⟩ := S.out
          have HV : Hid (val acc = val xs + val ys) := by
            show _ = _
            rw [List.take_of_length_le (by omega), List.take_of_length_le (by omega)] at s3
            rw [← s3]; simp
          have HL := hide s2
          have HK := hide s1
          clear s1 s2 s3 S hrx hry hx hy hlx hly
          go_wp2_with fail
          go_ret
          exact ⟨_, rfl, acc, by rw [HK.out]; exact hown, HL.out, HV.out, by rw [HK.out]; exact hk, hbl⟩
end Go.Proofs.Ytcainjgcfbgddaa
