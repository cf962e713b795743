/-
  The reference's polygons: contracts: SamePolygon.
-/
import Derived.Test.YtfajcogkbmefjaaPolM
import Derived.Test.YtfajcogkbmefjaaEqV
import Derived.BigQuiet
namespace Go.Proofs.Ytfajcogkbmefjaa
open Go.RowKit
set_option linter.unusedVariables false
theorem rotL_at {m : List V2} {k i : Nat} (hk : k < m.length) (hi : i < m.length) : atV m ((i + k) % m.length) = atV (rotL m k) i := by
  have hl : (rotL m k).length = m.length := rotL_len m k (by omega)
  rw [atV_eq (Nat.mod_lt _ (by omega)), atV_eq (by omega)]
  unfold rotL
  by_cases h : i + k < m.length
  · simp only [Nat.mod_eq_of_lt h]
    rw [List.getElem_append_left (by simp; omega), List.getElem_drop]
    congr 1; omega
  · have e : (i + k) % m.length = i + k - m.length := by
      rw [Nat.mod_eq_sub_mod (by omega), Nat.mod_eq_of_lt (by omega)]
    simp only [e]
    rw [List.getElem_append_right (by simp; omega), List.getElem_take]
    congr 1; simp; omega
/-- the first i elements agree -/
def agr (l m : List V2) (k i : Nat) : Prop := ∀ q, q < i → atV m ((q + k) % m.length) = atV l q
theorem agr_all {l m : List V2} {k : Nat} (hl : l.length = m.length) (hk : k < l.length) : agr l m k l.length ↔ l = rotL m k := by
  have hr : (rotL m k).length = m.length := rotL_len m k (by omega)
  constructor
  · intro h
    refine List.ext_getElem (by omega) fun i h1 h2 => ?_
    have := h i h1
    rw [rotL_at (by omega) (by omega), atV_eq (by omega), atV_eq h1] at this
    exact this.symm
  · intro h q hq
    rw [rotL_at (by omega) (by omega), ← h]
set_option maxRecDepth 100000 in
set_option maxHeartbeats 1600000 in
theorem spec_SamePolygon (w : World) (B : Nat) (hB : B ≤ w.heap.size) (A : Option Addr) (n c : Nat) (l : List V2) (R : RdV w B A n l) (D : Option Addr) (m d : Nat) (r : List V2) (S : RdV w B D m r) :
    Calls Try.prog 30 #[.slice A n c, .slice D m d] w fun e w' => e = .returned (.bool (cycB l r)) ∧ Below w.heap.size w w' := by
  obtain ⟨hn, hx, hl, hwf⟩ := R
  obtain ⟨hm, hy, hl2, hwf2⟩ := S
  by_cases hnm : n = m
  case neg =>
    have HS : Hid (cycB l r = false) := cycB_no fun h => hnm (by have := h.1; omega)
    have hne : ((n : Int) != (m : Int)) = true := by simp; omega
    clear hx hy
    go_enter Try.func30, Try.ntmps30
    go_wp2_with fail
    go_ret
    exact ⟨ret_bool HS.out.symm, Below.refl _ _⟩
  subst hnm
  have hq : ((n : Int) != (n : Int)) = false := by simp
  go_enter Try.func30, Try.ntmps30
  go_wp2_with fail
  clear hq
  go_loopw [6] (fun i wr => ∃ k : Nat, k ≤ n ∧ i = .int .i64 k ∧ Hid (∀ s, s < k → l ≠ rotL r s) ∧ Below w.heap.size w wr) (fun i _ => n - (intOf i).toNat)
  case atStart => exact ⟨0, Nat.zero_le _, rfl, fun s h => absurd h (Nat.not_lt_zero _), Below.refl _ _⟩
  case round =>
    obtain ⟨k, hk, rfl, H, hbel⟩ := hrel
    by_cases hlt : k < n
    · go_wp2_with fail
      obtain ⟨wo, ewo⟩ : ∃ x, x = wr := ⟨_, rfl⟩
      subst ewo
      have hws := hbel.size
      go_loopw [7, 23] (fun v j wi => ∃ (i : Nat) (b : Bool), i ≤ n ∧ v = .bool b ∧ j = .int .i64 i ∧ Hid (b = true ↔ agr l r k i) ∧ Below wo.heap.size wo wi) (fun _ j _ => n - (intOf j).toNat)
      case atStart => exact ⟨0, true, Nat.zero_le _, rfl, rfl, ⟨fun _ q h => absurd h (Nat.not_lt_zero _), fun _ => rfl⟩, Below.refl _ _⟩
      case round =>
        obtain ⟨i, b, hi, rfl, rfl, HI, hbi⟩ := hrel
        by_cases hil : i < n
        · have hTi := hbel.trans (hbi.mono hws)
          obtain ⟨ad, hA, hb1, hc1, hc2⟩ := (hx.below (hTi.mono hB)).vec (k := i) (by omega)
          have hml : i < l.length := by omega
          have HL := hide (atV_eq hml)
          generalize l[i] = u at *
          obtain ⟨x1, y1⟩ := u
          simp only at hc1 hc2
          obtain ⟨W1, hW1⟩ : ∃ W1, W1 = wr.alloc (.cells #[.int .i64 x1, .int .i64 y1] 27) := ⟨_, rfl⟩
          have kb : Box W1 wr.heap.size 27 #[.int .i64 x1, .int .i64 y1] := by rw [hW1]; exact Box.last _ _ _ rfl
          have hbj : Below wo.heap.size wo W1 := by rw [hW1]; exact below_alloc hbi _
          subst hA
          go_upto_region 11 with fail
          rw [← hW1]
          clear hW1 hTi hc1 hc2
          cases b with
          | false =>
            have HN : Hid (false = true ↔ agr l r k (i + 1)) := ⟨fun h => (by cases h), fun h => (by have := HI.out.2 fun q hq => h q (by omega); cases this)⟩
            go_quiet (fail)
            go_wp2_with fail
            go_roundw
            case rel => exact ⟨i + 1, false, by omega, rfl, by go_num, HN, below_dN hbj _⟩
            case measure => simp [intOf]; omega
          | true =>
            obtain ⟨yb0, yb1⟩ := kb.cells2
            have hTj := hbel.trans (hbj.mono hws)
            have hp : (i + k) % n < n := Nat.mod_lt _ (by omega)
            have hpl : Hid ((i + k) % n = (i + k) % r.length) := by show _ = _; rw [hm]
            have hmm : ((i : Int) + (k : Int)) % (n : Int) = (((i + k) % n : Nat) : Int) := by rw [Int.natCast_emod]; rfl
            generalize (i + k) % n = p at *
            obtain ⟨ae, hE, hb3, hc3, hc4⟩ := (hy.below (hTj.mono hB)).vec (k := p) (by omega)
            have HR := hide (atV_eq (show p < r.length by omega))
            generalize r[p] = v at *
            obtain ⟨x2, y2⟩ := v
            simp only at hc3 hc4
            subst hE
            have hp0 : (0 : Int) ≤ (p : Int) := Int.natCast_nonneg _
            have hp1 : (p : Int) < (n : Int) := by omega
            have HA : Hid (agr l r k (i + 1) ↔ (x2 = x1 ∧ y2 = y1)) := by
              show _ ↔ _
              constructor
              · intro h
                have := h i (by omega)
                rw [← hpl.out, HR.out, HL.out] at this
                exact ⟨congrArg Prod.fst this, congrArg Prod.snd this⟩
              · rintro ⟨rfl, rfl⟩ q hq
                by_cases eq : q = i
                · subst eq; rw [← hpl.out, HR.out, HL.out]
                · exact HI.out.1 rfl q (by omega)
            clear HI HR HL hpl
            by_cases e1 : x2 = x1
            · by_cases e2 : y2 = y1
              · have HN : Hid (true = true ↔ agr l r k (i + 1)) := ⟨fun _ => HA.out.2 ⟨e1, e2⟩, fun _ => rfl⟩
                subst e1 e2
                go_quiet (fail)
                go_wp2_with fail
                go_roundw
                case rel => exact ⟨i + 1, true, by omega, by simp, by go_num, HN, below_dN hbj _⟩
                case measure => simp [intOf]; omega
              · have HN : Hid (false = true ↔ agr l r k (i + 1)) := ⟨fun h => (by cases h), fun h => (e2 (HA.out.1 h).2).elim⟩
                have he : (y2 == y1) = false := by simpa using e2
                go_quiet (fail)
                go_wp2_with fail
                go_roundw
                case rel => exact ⟨i + 1, false, by omega, by simp, by go_num, HN, below_dN hbj _⟩
                case measure => simp [intOf]; omega
            · have HN : Hid (false = true ↔ agr l r k (i + 1)) := ⟨fun h => (by cases h), fun h => (e1 (HA.out.1 h).1).elim⟩
              have he : (x2 == x1) = false := by simpa using e1
              go_quiet (fail)
              go_wp2_with fail
              go_roundw
              case rel => exact ⟨i + 1, false, by omega, by simp, by go_num, HN, below_dN hbj _⟩
              case measure => simp [intOf]; omega
        · obtain rfl : i = n := by omega
          have HA := agr_all (l := l) (m := r) (k := k) (by omega) (by omega)
          rw [hn] at HA
          have HA2 := hide (HI.out.trans HA)
          clear HA HI
          have hTi := hbel.trans (hbi.mono hws)
          cases b with
          | true =>
            have HS : Hid (cycB l r = true) := cycB_iff.2 (cycP_back.2 ⟨by omega, .inr ⟨k, by omega, HA2.out.1 rfl⟩⟩)
            go_wp2_with fail
            go_ret
            exact ⟨ret_bool HS.out.symm, hTi⟩
          | false =>
            have HN : Hid (∀ s, s < k + 1 → l ≠ rotL r s) := fun s hs => by
              by_cases es : s = k
              · subst es; intro h; have := HA2.out.2 h; cases this
              · exact H.out s (by omega)
            go_wp2_with fail
            go_roundw
            case rel => exact ⟨k + 1, by omega, by go_num, HN, hTi⟩
            case measure => simp [intOf]; omega
    · obtain rfl : k = n := by omega
      by_cases h0 : k = 0
      · have HS : Hid (cycB l r = true) := cycB_iff.2 ⟨by omega, .inl (by omega)⟩
        subst h0
        clear hx hy H
        go_wp2_with fail
        go_ret
        exact ⟨ret_bool HS.out.symm, hbel⟩
      · have HS : Hid (cycB l r = false) := cycB_no fun h => by
          rcases (cycP_back.1 h).2 with e | ⟨s, hs, e⟩
          · omega
          · exact H.out s (by omega) e
        have hz : ((k : Int) == 0) = false := by simp; omega
        clear hx hy H
        go_wp2_with fail
        go_ret
        exact ⟨ret_bool HS.out.symm, hbel⟩
end Go.Proofs.Ytfajcogkbmefjaa
