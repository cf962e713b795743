/-
  The reference's polygons: contracts: IsPolygon.
-/
import Derived.Test.YtdcceppednngjaaHM
import Derived.Test.YtdcceppednngjaaPtR
import Derived.Test.YtdcceppednngjaaRA
namespace Go.Proofs.Ytdcceppednngjaa
open Go.RowKit
set_option linter.unusedVariables false
set_option maxRecDepth 100000 in
set_option maxHeartbeats 1600000 in
theorem spec_IsPolygon (w : World) (B : Nat) (hB : B ≤ w.heap.size) (A : Option Addr) (n c : Nat) (l : List V2) (R : RdV w B A n l) :
    Calls Try.prog 32 #[.slice A n c] w fun e w' => e = .returned (.bool (polyB l)) ∧ Below w.heap.size w w' := by
  obtain ⟨hn, hx, hl, hwf⟩ := R
  by_cases h3 : 3 ≤ n ∧ n ≤ 16
  case neg =>
    have HP : Hid (polyB l = false) := polyB_no fun h => by have := h.1; have := h.2.1; omega
    have HI := hide (l01In_all n 3 16 w false (by show false = _; simp; omega))
    clear hx h3
    go_enter Try.func32, Try.ntmps32
    go_wp2_with fail
    refine HI.out.mono ?_
    rintro e w' ⟨rfl, rfl⟩
    go_wp2_with fail
    go_ret
    exact ⟨ret_bool HP.out.symm, Below.refl _ _⟩
  have HI := hide (l01In_all n 3 16 w true (by show true = _; simp; omega))
  go_enter Try.func32, Try.ntmps32
  go_wp2_with fail
  refine HI.out.mono ?_
  rintro e w' ⟨rfl, rfl⟩
  clear HI
  go_wp2_with fail
  go_loopw [16] (fun i wr => ∃ k : Nat, k ≤ n ∧ i = .int .i64 k ∧ Hid (∀ i, i < k → ∀ j, j < n → okE l i j) ∧ Below w.heap.size w wr) (fun i _ => n - (intOf i).toNat)
  case atStart => exact ⟨0, Nat.zero_le _, rfl, fun i h => absurd h (Nat.not_lt_zero _), Below.refl _ _⟩
  case round =>
    obtain ⟨k, hk, rfl, H, hbel⟩ := hrel
    by_cases hlt : k < n
    · obtain ⟨ad, hA, hb1, hc1, hc2⟩ := (hx.below (hbel.mono hB)).vec (k := k) (by omega)
      have hkl : k < l.length := by omega
      obtain ⟨f1, f2⟩ := wfV_at hwf hkl
      have e0 : Hid (l[k] = (l[k].1, l[k].2)) := rfl
      generalize l[k].1 = x0 at *
      generalize l[k].2 = y0 at *
      have hm : ((k : Int) + 1) % (n : Int) = (((k + 1) % n : Nat) : Int) := by rw [Int.natCast_emod]; rfl
      have hp : (k + 1) % n < n := Nat.mod_lt _ (by omega)
      have hpl : Hid ((k + 1) % n = (k + 1) % l.length) := by show _ = _; rw [hn]
      generalize (k + 1) % n = p at *
      have hpl2 : p < l.length := by omega
      obtain ⟨ad', hA', hb3, hc3, hc4⟩ := (hx.below (hbel.mono hB)).vec (k := p) (by omega)
      rw [hA] at hA'
      cases hA'
      obtain ⟨f3, f4⟩ := wfV_at hwf hpl2
      have e2 : Hid (l[p] = (l[p].1, l[p].2)) := rfl
      generalize l[p].1 = x2 at *
      generalize l[p].2 = y2 at *
      obtain ⟨wo, ewo⟩ : ∃ x, x = wr := ⟨_, rfl⟩
      subst ewo
      obtain ⟨W0, hW0⟩ : ∃ W0, W0 = (wo.alloc (.cells #[.int .i64 x0, .int .i64 y0] 27)).alloc (.cells #[.int .i64 x2, .int .i64 y2] 27) := ⟨_, rfl⟩
      have hT0 : Below wo.heap.size wo W0 := by rw [hW0]; exact below_alloc (below_new _ _) _
      have ka : Box W0 wo.heap.size 27 #[.int .i64 x0, .int .i64 y0] := by rw [hW0]; exact (Box.last _ _ _ rfl).alloc _
      have kp : Box W0 (wo.heap.size + 1) 27 #[.int .i64 x2, .int .i64 y2] := by rw [hW0]; exact Box.last _ _ _ (alloc_size _ _).symm
      have hs0 : W0.heap.size = wo.heap.size + 2 := by rw [hW0, alloc_size, alloc_size]
      have hba : (ad.add (p * 2)).block < wo.heap.size := by rw [add_block]; have := hbel.size; omega
      subst hA
      go_wp2_with fail
      rw [← hW0, hm]
      clear hW0 hc1 hc2 hc3 hc4
      have hT : Below w.heap.size w W0 := hbel.trans (hT0.mono hbel.size)
      have hws := hT.size
      clear hT0 hbel
      go_loopw [30] (fun j wi => ∃ m : Nat, m ≤ n ∧ j = .int .i64 m ∧ Hid (∀ j, j < m → okE l k j) ∧ Below W0.heap.size W0 wi) (fun j _ => n - (intOf j).toNat)
      case atStart => exact ⟨0, Nat.zero_le _, rfl, fun i h => absurd h (Nat.not_lt_zero _), Below.refl _ _⟩
      case round =>
        obtain ⟨m, hmn, rfl, HI, hbi⟩ := hrel
        by_cases hmlt : m < n
        · have hTi := hT.trans (hbi.mono hws)
          obtain ⟨ae, hE, hb5, hc5, hc6⟩ := (hx.below (hTi.mono hB)).vec (k := m) (by omega)
          cases hE
          have hml : m < l.length := by omega
          obtain ⟨f5, f6⟩ := wfV_at hwf hml
          have e4 : Hid (l[m] = (l[m].1, l[m].2)) := rfl
          generalize l[m].1 = x1 at *
          generalize l[m].2 = y1 at *
          obtain ⟨W1, hW1⟩ : ∃ W1, W1 = wr.alloc (.cells #[.int .i64 x1, .int .i64 y1] 27) := ⟨_, rfl⟩
          have kb : Box W1 wr.heap.size 27 #[.int .i64 x1, .int .i64 y1] := by rw [hW1]; exact Box.last _ _ _ rfl
          have hbj : Below W0.heap.size W0 W1 := by rw [hW1]; exact below_alloc hbi _
          have HV := hide (fun (W : World) => spec_IsValidVec W x1 y1 f5 f6)
          go_upto_region 11 with fail
          rw [← hW1]
          clear hW1 hTi hc5 hc6
          obtain ⟨yb0, yb1⟩ := kb.cells2
          go_wp2_with fail
          refine (HV.out _).mono ?_
          rintro e w1 ⟨rfl, hb1⟩
          clear yb0 yb1
          have ka1 := ka.below (hbj.trans (hb1.mono hbj.size)) ka.lt
          have kp1 := kp.below (hbj.trans (hb1.mono hbj.size)) kp.lt
          have kb1 := kb.below hb1 kb.lt
          have hbk := hbj.trans (hb1.mono hbj.size)
          by_cases ev : vecB x1 y1 = true
          case neg =>
            have ev : vecB x1 y1 = false := by simpa using ev
            have HN : Hid (polyB l = false) := polyB_no fun h => by
              have := poly_vec h hml
              rw [atV_eq hml, e4.out] at this
              unfold vecV at this
              rw [ev] at this
              cases this
            rw [ev]
            go_wp2_with fail
            go_ret
            exact ⟨ret_bool HN.out.symm, hT.trans (hbk.mono hws)⟩
          rw [ev]
          clear HV
          have hne1 : ((m : Int) != (k : Int)) = !(decide (m = k)) := by
            by_cases e : m = k
            · simp [e]
            · have : (m : Int) ≠ (k : Int) := by omega
              simp [e, this]
          have hne2 : ((m : Int) != (p : Int)) = !(decide (m = p)) := by
            by_cases e : m = p
            · simp [e]
            · have : (m : Int) ≠ (p : Int) := by omega
              simp [e, this]
          by_cases e1 : m = k
          · have hg : ((m : Int) != (k : Int)) = false := by rw [hne1, decide_eq_true e1]; rfl
            have HN : Hid (∀ j, j < m + 1 → okE l k j) := fun j hj => by
              by_cases ej : j = m
              · intro h; exact (h (ej.trans e1)).elim
              · exact HI.out j (by omega)
            clear hne1 hne2 e1
            go_wp2_with fail
            go_roundw
            case rel => exact ⟨m + 1, by omega, by go_num, HN, hbk⟩
            case measure => simp [intOf]; omega
          have hg1 : ((m : Int) != (k : Int)) = true := by rw [hne1, decide_eq_false e1]; rfl
          by_cases e3 : m = p
          · have hg : ((m : Int) != (p : Int)) = false := by rw [hne2, decide_eq_true e3]; rfl
            have HN : Hid (∀ j, j < m + 1 → okE l k j) := fun j hj => by
              by_cases ej : j = m
              · intro _ h; exact (h (ej.trans (e3.trans hpl.out))).elim
              · exact HI.out j (by omega)
            clear hne1 hne2 e3
            go_wp2_with fail
            go_roundw
            case rel => exact ⟨m + 1, by omega, by go_num, HN, hbk⟩
            case measure => simp [intOf]; omega
          have hg2 : ((m : Int) != (p : Int)) = true := by rw [hne2, decide_eq_false e3]; rfl
          clear hne1 hne2
          have HT := hide (fun (W : World) => spec_Turn W x0 y0 f1 f2 x2 y2 f3 f4 x1 y1 f5 f6)
          have HE : Hid (okE l k m ↔ 0 < turnI x0 y0 x2 y2 x1 y1) := by
            show okE l k m ↔ _
            unfold okE
            rw [← hpl.out, atV_eq hkl, atV_eq hpl2, atV_eq hml, e0.out, e2.out, e4.out]
            exact ⟨fun h => h e1 e3, fun h _ _ => h⟩
          generalize turnI x0 y0 x2 y2 x1 y1 = T at *
          obtain ⟨ya0, ya1⟩ := ka1.cells2
          obtain ⟨yb0, yb1⟩ := kb1.cells2
          obtain ⟨yp0, yp1⟩ := kp1.cells2
          go_wp2_with fail
          refine (HT.out _).mono ?_
          rintro e w2 ⟨rfl, hb2⟩
          have hbl := hbk.trans (hb2.mono hbk.size)
          clear ya0 ya1 yb0 yb1 yp0 yp1 ka1 kb1 kp1
          by_cases hpos : 0 < T
          · have HN : Hid (∀ j, j < m + 1 → okE l k j) := fun j hj => by
              by_cases ej : j = m
              · rw [ej]; exact HE.out.2 hpos
              · exact HI.out j (by omega)
            go_wp2_with fail
            go_roundw
            case rel => exact ⟨m + 1, by omega, by go_num, HN, hbl⟩
            case measure => simp [intOf]; omega
          · have HN : Hid (polyB l = false) := polyB_no fun h => hpos (HE.out.1 (h.2.2 k hkl m hml))
            go_wp2_with fail
            go_ret
            exact ⟨ret_bool HN.out.symm, hT.trans (hbl.mono hws)⟩
        · obtain rfl : m = n := by omega
          have HN : Hid (∀ i, i < k + 1 → ∀ j, j < m → okE l i j) := fun i hi j hj => by
            by_cases ei : i = k
            · rw [ei]; exact HI.out j hj
            · exact H.out i (by omega) j hj
          clear HI H
          go_wp2_with fail
          go_roundw
          case rel => exact ⟨k + 1, by omega, by go_num, HN, hT.trans (hbi.mono hws)⟩
          case measure => simp [intOf]; omega
    · obtain rfl : k = n := by omega
      have HP : Hid (polyB l = true) := polyB_iff.2 ⟨by omega, by omega, fun i hi j hj => H.out i (by omega) j (by omega)⟩
      clear H hx
      go_wp2_with fail
      go_ret
      exact ⟨ret_bool HP.out.symm, hbel⟩
end Go.Proofs.Ytdcceppednngjaa
