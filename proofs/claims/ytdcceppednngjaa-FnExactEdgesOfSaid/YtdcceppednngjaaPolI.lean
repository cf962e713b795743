/-
  The program's polygons: contracts: IsPolygon.
-/
import Derived.Test.YtdcceppednngjaaHM
import Derived.Deep.RegionHeld3
import Derived.Deep.CutRange
import Derived.Sort.AtCall
import Derived.BigQuiet
namespace Go.Proofs.Ytdcceppednngjaa
open Go.RowKit
set_option linter.unusedVariables false
set_option maxRecDepth 100000 in
set_option maxHeartbeats 1600000 in
theorem impl_IsPolygon (w : World) (B : Nat) (hB : B ≤ w.heap.size) (A : Option Addr) (n c : Nat) (l : List V2) (R : RdV w B A n l) :
    Calls Try.prog 37 #[.slice A n c] w fun e w' => e = .returned (.bool (polyB l)) ∧ Below w.heap.size w w' := by
  obtain ⟨hn, hx, hl, hwf⟩ := R
  by_cases h3 : n < 3
  · have HP : Hid (polyB l = false) := polyB_no fun h => by have := h.1; omega
    clear hx
    go_enter Try.func37, Try.ntmps37
    go_wp2_with fail
    go_ret
    exact ⟨ret_bool HP.out.symm, Below.refl _ _⟩
  by_cases h16 : 16 < n
  · have HP : Hid (polyB l = false) := polyB_no fun h => by have := h.2.1; omega
    clear hx
    go_enter Try.func37, Try.ntmps37
    go_wp2_with fail
    go_ret
    exact ⟨ret_bool HP.out.symm, Below.refl _ _⟩
  go_enter Try.func37, Try.ntmps37
  go_wp2_with fail
  go_loopw [18] (fun i wr => ∃ k : Nat, k ≤ n ∧ i = .int .i64 k ∧ Hid (∀ i, i < k → ∀ j, j < n → okE l i j) ∧ Below w.heap.size w wr) (fun i _ => n - (intOf i).toNat)
  case atStart => exact ⟨0, Nat.zero_le _, rfl, fun i h => absurd h (Nat.not_lt_zero _), Below.refl _ _⟩
  case round =>
    obtain ⟨k, hk, rfl, H, hbel⟩ := hrel
    by_cases hlt : k < n
    · obtain ⟨ad, hA, hb1, hc1, hc2⟩ := (hx.below (hbel.mono hB)).vec (k := k) (by omega)
      have hkl : k < l.length := by omega
      obtain ⟨f1, f2⟩ := wfV_at hwf hkl
      have e0 : Hid (l[k] = (l[k].1, l[k].2)) := rfl
      generalize l[k].1 = x0 at *
      generalize l[k].2 = y0 at *
      go_wp2_with fail
      have hm : ((k : Int) + 1) % (n : Int) = (((k + 1) % n : Nat) : Int) := by rw [Int.natCast_emod]; rfl
      have hp : (k + 1) % n < n := Nat.mod_lt _ (by omega)
      have hpl : Hid ((k + 1) % n = (k + 1) % l.length) := by show _ = _; rw [hn]
      rw [hm]
      clear hm hc1 hc2 hb1 hA
      generalize (k + 1) % n = p at *
      have hpl2 : p < l.length := by omega
      obtain ⟨W0, hW0⟩ : ∃ W0, W0 = wr.alloc (.cells #[.int .i64 x0, .int .i64 y0] 27) := ⟨_, rfl⟩
      have hT0 : Below wr.heap.size wr W0 := by rw [hW0]; exact below_new _ _
      have ka : Box W0 wr.heap.size 27 #[.int .i64 x0, .int .i64 y0] := by rw [hW0]; exact Box.last _ _ _ rfl
      have hs0 : W0.heap.size = wr.heap.size + 1 := by rw [hW0, alloc_size]
      rw [← hW0]
      clear hW0
      have hT : Below w.heap.size w W0 := hbel.trans (hT0.mono hbel.size)
      have hws := hT.size
      clear hT0 hbel
      obtain ⟨wo, ewo⟩ : ∃ x, x = wr := ⟨_, rfl⟩
      subst ewo
      go_loopw [30] (fun j wi => ∃ m : Nat, m ≤ n ∧ j = .int .i64 m ∧ Hid (∀ j, j < m → okE l k j) ∧ Below W0.heap.size W0 wi) (fun j _ => n - (intOf j).toNat)
      case atStart => exact ⟨0, Nat.zero_le _, rfl, fun i h => absurd h (Nat.not_lt_zero _), Below.refl _ _⟩
      case round =>
        obtain ⟨m, hmn, rfl, HI, hbi⟩ := hrel
        by_cases hmlt : m < n
        · have hTi := hT.trans (hbi.mono hws)
          obtain ⟨ad, hA, hb1, hc1, hc2⟩ := (hx.below (hTi.mono hB)).vec (k := m) (by omega)
          have hml : m < l.length := by omega
          go_wp2_with fail
          clear hc1 hc2 hb1
          obtain ⟨W1, hW1⟩ : ∃ W1, W1 = wr.alloc (.cells #[.int .i64 l[m].1, .int .i64 l[m].2] 27) := ⟨_, rfl⟩
          have kb : Box W1 wr.heap.size 27 #[.int .i64 l[m].1, .int .i64 l[m].2] := by rw [hW1]; exact Box.last _ _ _ rfl
          have hbj : Below W0.heap.size W0 W1 := by rw [hW1]; exact below_alloc hbi _
          rw [← hW1]
          clear hW1 hTi
          have ka1 := ka.below hbj ka.lt
          have hTj := hT.trans (hbj.mono hws)
          obtain ⟨ad', hA', hb1, hc1, hc2⟩ := (hx.below (hTj.mono hB)).vec (k := p) (by omega)
          rw [hA] at hA'
          cases hA'
          subst hA
          have hne1 : ((m : Int) != (k : Int)) = !(decide (m = k)) := by
            by_cases e : m = k
            · simp [e]
            · have : (m : Int) ≠ (k : Int) := by omega
              simp [e, this]
          have hne2 : ((m : Int) != (p : Int)) = !(decide (m = p)) := by
            by_cases e : m = p
            · simp [e]
            · have : (m : Int) ≠ (p : Int) := by omega
              simp [e, this]
          by_cases e1 : m = k
          · have hg : ((m : Int) != (k : Int)) = false := by rw [hne1, decide_eq_true e1]; rfl
            have HN : Hid (∀ j, j < m + 1 → okE l k j) := fun j hj => by
              by_cases ej : j = m
              · intro h; exact (h (ej.trans e1)).elim
              · exact HI.out j (by omega)
            clear hne1 hne2 hc1 hc2
            go_quiet (fail)
            go_wp2_with fail
            go_roundw
            case rel => exact ⟨m + 1, by omega, by go_num, HN, below_drewN hbj _⟩
            case measure => simp [intOf]; omega
          have hg1 : ((m : Int) != (k : Int)) = true := by rw [hne1, decide_eq_false e1]; rfl
          by_cases e2 : m = p
          · have hg : ((m : Int) != (p : Int)) = false := by rw [hne2, decide_eq_true e2]; rfl
            have HN : Hid (∀ j, j < m + 1 → okE l k j) := fun j hj => by
              by_cases ej : j = m
              · intro _ h; exact (h (ej.trans (e2.trans hpl.out))).elim
              · exact HI.out j (by omega)
            clear hne1 hne2 hc1 hc2 e2
            go_quiet (fail)
            go_wp2_with fail
            go_roundw
            case rel => exact ⟨m + 1, by omega, by go_num, HN, below_drewN hbj _⟩
            case measure => simp [intOf]; omega
          have hg2 : ((m : Int) != (p : Int)) = true := by rw [hne2, decide_eq_false e2]; rfl
          clear hne1 hne2
          obtain ⟨f3, f4⟩ := wfV_at hwf hpl2
          obtain ⟨f5, f6⟩ := wfV_at hwf hml
          have HT := hide (fun (W : World) => impl_Turn W x0 y0 f1 f2 l[p].1 l[p].2 f3 f4 l[m].1 l[m].2 f5 f6)
          have HE : Hid (okE l k m ↔ 0 < turnI x0 y0 l[p].1 l[p].2 l[m].1 l[m].2) := by
            show okE l k m ↔ _
            unfold okE
            rw [← hpl.out, atV_eq hkl, atV_eq hpl2, atV_eq hml, e0.out]
            exact ⟨fun h => h e1 e2, fun h _ _ => h⟩
          generalize turnI x0 y0 l[p].1 l[p].2 l[m].1 l[m].2 = T at *
          clear f3 f4 f5 f6
          have hx' : (ad.add (p * 2)).block < W1.heap.size := by rw [add_block]; have := hTj.size; omega
          obtain ⟨ya0, ya1⟩ := ka1.cells2
          obtain ⟨yb0, yb1⟩ := kb.cells2
          have hla := ka1.lt
          have hlb := kb.lt
          generalize l[m].1 = x1 at *
          generalize l[m].2 = y1 at *
          generalize l[p].1 = x2 at *
          generalize l[p].2 = y2 at *
          have HP := hide ka1
          have HQ := hide kb
          clear ka1 kb ka
          go_region_held3 (fun w' => w'.cell? ⟨wo.heap.size, 0, none⟩ = some (.int .i64 x0) ∧ w'.cell? ⟨wo.heap.size, 1, none⟩ = some (.int .i64 y0) ∧ w'.cell? ⟨wr.heap.size, 0, none⟩ = some (.int .i64 x1) ∧ w'.cell? ⟨wr.heap.size, 1, none⟩ = some (.int .i64 y1) ∧ w'.cell? (ad.add (p * 2)) = some (.int .i64 x2) ∧ w'.cell? ⟨(ad.add (p * 2)).block, (ad.add (p * 2)).off + 1, none⟩ = some (.int .i64 y2) ∧ Below W1.heap.size W1 w')
            (first | exact ⟨ya0, ya1, yb0, yb1, hc1, hc2, (Below.refl _ _).drew⟩ | exact ⟨(hb2.cell hla).trans ya0, (hb2.cell (p := ⟨_, _, none⟩) hla).trans ya1, (hb2.cell hlb).trans yb0, (hb2.cell (p := ⟨_, _, none⟩) hlb).trans yb1, (hb2.cell hx').trans hc1, (hb2.cell (p := ⟨_, _, none⟩) hx').trans hc2, undrew hb2⟩)
            (first | (go_at_call 71; refine (HT.out _).mono ?_; rintro e w1 ⟨rfl, hb2⟩))
          have hbk := hbj.trans ((undrew hb2).mono hbj.size)
          by_cases hpos : 0 < T
          · have HN : Hid (∀ j, j < m + 1 → okE l k j) := fun j hj => by
              by_cases ej : j = m
              · rw [ej]; exact HE.out.2 hpos
              · exact HI.out j (by omega)
            go_wp2_with fail
            go_roundw
            case rel => exact ⟨m + 1, by omega, by go_num, HN, hbk⟩
            case measure => simp [intOf]; omega
          · have HN : Hid (polyB l = false) := polyB_no fun h => hpos (HE.out.1 (h.2.2 k hkl m hml))
            go_wp2_with fail
            go_ret
            exact ⟨ret_bool HN.out.symm, hT.trans (hbk.mono hws)⟩
        · obtain rfl : m = n := by omega
          have HN : Hid (∀ i, i < k + 1 → ∀ j, j < m → okE l i j) := fun i hi j hj => by
            by_cases ei : i = k
            · rw [ei]; exact HI.out j hj
            · exact H.out i (by omega) j hj
          clear HI H
          go_wp2_with fail
          go_roundw
          case rel => exact ⟨k + 1, by omega, by go_num, HN, hT.trans (hbi.mono hws)⟩
          case measure => simp [intOf]; omega
    · obtain rfl : k = n := by omega
      have HP : Hid (polyB l = true) := polyB_iff.2 ⟨by omega, by omega, fun i hi j hj => H.out i (by omega) j (by omega)⟩
      clear H hx
      go_wp2_with fail
      go_ret
      exact ⟨ret_bool HP.out.symm, hbel⟩
end Go.Proofs.Ytdcceppednngjaa
