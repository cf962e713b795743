/-
  The iterator over the sums of two lists of corners: its contract.
-/
import Derived.Test.YtdagomikjblgiaaRngV
namespace Go.Proofs.Ytdagomikjblgiaa
open Go.RowKit
set_option linter.unusedVariables false
attribute [local go_sem] Oper.semAt_some
def pairV (x : V2) : Array Value := #[.agg #[.int .i64 x.1, .int .i64 x.2]]
/-- the sums of the first k corners of a, and of corner k with the first q of b -/
def sumN (a b : List V2) (k q : Nat) : List V2 := sumV (a.take k) b ++ (b.take q).map fun w => addV (atV a k) w
theorem sumV_app (a a' b : List V2) : sumV (a ++ a') b = sumV a b ++ sumV a' b := by unfold sumV; rw [List.flatMap_append]
theorem sumN_row {a b : List V2} {k : Nat} (hk : k < a.length) : sumN a b k b.length = sumN a b (k + 1) 0 := by
  unfold sumN
  rw [List.take_length, List.take_succ_eq_append_getElem hk, sumV_app, ← atV_eq hk]
  simp [sumV]
theorem sumN_next {a b : List V2} {k q : Nat} (hq : q < b.length) : sumN a b k (q + 1) = sumN a b k q ++ [addV (atV a k) b[q]] := by
  unfold sumN
  rw [List.take_succ_eq_append_getElem hq, List.map_append, List.append_assoc]; rfl
theorem sumN_all (a b : List V2) : sumN a b a.length 0 = sumV a b := by unfold sumN; simp
theorem sumN_lt {a b : List V2} {k q : Nat} (hk : k < a.length) (hq : q < b.length) : (sumN a b k q).length < (sumV a b).length := by
  have h1 : (sumV a b).length = a.length * b.length := sumV_len a b
  have h2 : (sumN a b k q).length = k * b.length + q := by
    unfold sumN
    rw [List.length_append, sumV_len, List.length_map, List.length_take, List.length_take]
    rw [Nat.min_eq_left (by omega), Nat.min_eq_left (by omega)]
  have h3 : (k + 1) * b.length ≤ a.length * b.length := Nat.mul_le_mul_right _ hk
  rw [Nat.add_mul] at h3
  omega
set_option maxRecDepth 100000 in
set_option maxHeartbeats 4000000 in
theorem sums_in (n l : Nat) (hn : 4 ≤ n) (B1 B2 n0 : Nat) (A : Option Addr) (na ca : Nat) (a : List V2) (D : Option Addr) (nb cb : Nat) (b : List V2) (hva : allV a = true) (hvb : allV b = true)
    (J Jx : List V2 → World → Prop)
    (hY : ∀ pre x W, J pre W → pre.length < (sumV a b).length → YieldAt Fence.wide (n - 1) Try.prog l (pairV x) W fun e W' =>
      (e = .returned (.bool true) ∧ J (pre ++ [x]) W' ∧ KpV n0 32 24 B1 B2 W W') ∨ (e = .returned (.bool false) ∧ Jx (pre ++ [x]) W'))
    (W : World) (hnW : n0 ≤ W.heap.size) (hJ : AbidesFrom W.heap.size J)
    (k1 : Boxed W B1 24 (.slice A na ca)) (k2 : Boxed W B2 24 (.slice D nb cb)) (Ra : RdV W n0 A na a) (Rb : RdV W n0 D nb b) (h0 : J [] W) :
    CallsIn Fence.wide n Try.prog 68 #[.func (.yield l) #[] #[], .pointer (some ⟨B1, 0, none⟩), .pointer (some ⟨B2, 0, none⟩)] W fun e W' => (∃ v, e = .returned v) ∧
      ((∃ ys, ys = sumV a b ∧ J ys W') ∨ (∃ pre, True ∧ Jx pre W')) := by
  refine callsIn_of_wp Try.func68 rfl trivial ?_ rfl
  simp only [Try.ntmps68, List.size_toArray, List.length_cons, List.length_nil, Nat.reduceAdd, Nat.reduceSub, Array.replicate_succ, Array.replicate_zero, List.push_toArray, List.append_toArray, List.nil_append, List.cons_append]
  obtain ⟨hna, hxa, hla, hwa⟩ := Ra
  obtain ⟨hnb, hxb, hlb, hwb⟩ := Rb
  have c1 := k1.cell
  clear k1
  gi_wp2
  gi_loopw [10] (fun i wr => ∃ k : Nat, k ≤ na ∧ i = .int .i64 k ∧ J (sumN a b k 0) wr ∧ Below n0 W wr ∧ Boxed wr B2 24 (.slice D nb cb)) (fun i _ => na - (intOf i).toNat)
  case atStart => exact ⟨0, Nat.zero_le _, rfl, h0, Below.refl _ _, k2⟩
  case round =>
    clear k2 h0
    obtain ⟨k, hk, rfl, hJk, hbel, k2⟩ := hrel
    have hnr := Nat.le_trans hnW hbel.size
    by_cases hlt : k < na
    · obtain ⟨ad, hA, hb1, hc1, hc2⟩ := (hxa.below hbel).vec (k := k) (by omega)
      have hkl : k < a.length := by omega
      have hvk := allV_at hva hkl
      have HAT : Hid (addV (atV a k) = addV (a[k].1, a[k].2)) := by show _ = _; rw [atV_eq hkl]
      unfold vecV at hvk
      generalize a[k].1 = x0 at *
      generalize a[k].2 = y0 at *
      obtain ⟨W0, hW0⟩ : ∃ W0, W0 = wr.alloc (.cells #[.int .i64 x0, .int .i64 y0] 32) := ⟨_, rfl⟩
      have ka : Box W0 wr.heap.size 32 #[.int .i64 x0, .int .i64 y0] := by rw [hW0]; exact Box.last _ _ _ rfl
      have hT : Below wr.heap.size wr W0 := by rw [hW0]; exact below_new _ _
      have hJ0 := hJ _ _ _ none hJk (grown_of_below hT) (fun r e => by cases e)
      have hb0 := hbel.trans (hT.mono hnr)
      have k2' : Boxed W0 B2 24 (.slice D nb cb) := by rw [hW0]; exact k2.alloc _
      have c3 := k2'.cell
      rw [hW0] at c3
      obtain ⟨g, hg⟩ : ∃ g, g = wr.heap.size := ⟨_, rfl⟩
      rw [← hg] at ka
      subst hA
      gi_wp2
      rw [← hW0, ← hg]
      clear hW0 hg hc1 hc2 hT hJk hbel k2 c3
      gi_loopw [16] (fun j wi => ∃ q : Nat, q ≤ nb ∧ j = .int .i64 q ∧ J (sumN a b k q) wi ∧ Below n0 W wi ∧ Box wi g 32 #[.int .i64 x0, .int .i64 y0] ∧ Boxed wi B2 24 (.slice D nb cb)) (fun j _ => nb - (intOf j).toNat)
      case atStart => exact ⟨0, Nat.zero_le _, rfl, hJ0, hb0, ka, k2'⟩
      case round =>
        clear hJ0 hb0 ka k2'
        obtain ⟨q, hq, rfl, hJq, hbel, ka, k2⟩ := hrel
        have hnr := Nat.le_trans hnW hbel.size
        by_cases hqt : q < nb
        · obtain ⟨ae, hE, hb2, hc1, hc2⟩ := (hxb.below hbel).vec (k := q) (by omega)
          have hql : q < b.length := by omega
          have hvq := allV_at hvb hql
          have HS : Hid (sumN a b k (q + 1) = sumN a b k q ++ [(x0 + b[q].1, y0 + b[q].2)]) := by show _ = _; rw [sumN_next hql, HAT.out]; rfl
          have HL := hide (sumN_lt hkl hql)
          unfold vecV at hvq
          generalize b[q].1 = x1 at *
          generalize b[q].2 = y1 at *
          obtain ⟨W1, hW1⟩ : ∃ W1, W1 = wr.alloc (.cells #[.int .i64 x1, .int .i64 y1] 32) := ⟨_, rfl⟩
          have kb : Box W1 wr.heap.size 32 #[.int .i64 x1, .int .i64 y1] := by rw [hW1]; exact Box.last _ _ _ rfl
          have ka1 : Box W1 g 32 #[.int .i64 x0, .int .i64 y0] := by rw [hW1]; exact ka.alloc _
          have hT : Below wr.heap.size wr W1 := by rw [hW1]; exact below_new _ _
          have HC := hide (impl_sumOf W1 x0 y0 x1 y1 hvk hvq)
          generalize x0 + x1 = sx at *
          generalize y0 + y1 = sy at *
          obtain ⟨yb0, yb1⟩ := kb.cells2
          obtain ⟨ya0, ya1⟩ := ka1.cells2
          have k21 : Boxed W1 B2 24 (.slice D nb cb) := by rw [hW1]; exact k2.alloc _
          have hlg := ka1.lt
          rw [hW1] at yb0 yb1 ya0 ya1 HC
          subst hE
          gi_wp2_with fail
          refine ⟨trivial, fun _ => by omega, ?_⟩
          refine (callsIn_wide.2 HC.out).mono ?_
          rw [← hW1]
          rintro e w2 ⟨rfl, hbs⟩
          clear ya0 ya1 yb0 yb1 HC hc1 hc2 hW1
          have hTT := below_then hT hbs
          have hb2' := hbel.trans (hTT.mono hnr)
          have hJ2 := hJ _ _ _ none hJq (grown_of_below hTT) (fun r e => by cases e)
          have ka2 := ka1.below hbs hlg
          have k22 := k21.kept (grown_of_below hbs) (by simp)
          have hnr2 := Nat.le_trans hnW hb2'.size
          clear hJq hbel ka ka1 kb hT hbs hTT k2 k21
          obtain ⟨fn, tmps, assign, body, hy, hR⟩ := hY _ (sx, sy) w2 hJ2 HL.out
          dsimp only [pairV] at hy
          gi_wp2
          refine ⟨fun _ => by omega, hR.mono ?_⟩
          rintro e W3 (⟨rfl, hJ3, hk3⟩ | ⟨rfl, hJx3⟩)
          · have ka3 := box_keep hk3.2.1 ka2
            have k23 := boxed_keep hk3.2.2 (.inr rfl) k22
            have hb3 := hb2'.trans hk3.1
            gi_wp2
            go_roundw
            case rel => exact ⟨q + 1, by omega, by go_num, by rw [HS.out]; exact hJ3, hb3, ka3, k23⟩
            case measure => simp [intOf]; omega
          · gi_wp2
            refine bodyPost_ret (results_none rfl _ _ _) rfl ?_
            exact ⟨⟨_, rfl⟩, .inr ⟨_, trivial, hJx3⟩⟩
        · obtain rfl : q = nb := by omega
          have hJ3 : J (sumN a b (k + 1) 0) wr := by rw [← sumN_row hkl, hnb]; exact hJq
          clear hJq ka
          gi_wp2
          go_roundw
          case rel => exact ⟨k + 1, by omega, by go_num, hJ3, hbel, k2⟩
          case measure => simp [intOf]; omega
    · obtain rfl : k = na := by omega
      have hJ3 : J (sumV a b) wr := by rw [← sumN_all, hna]; exact hJk
      clear hJk
      gi_wp2
      go_end0
      exact ⟨⟨_, rfl⟩, .inl ⟨_, rfl, hJ3⟩⟩
end Go.Proofs.Ytdagomikjblgiaa
