/-
  The reference's hulls: contracts: HullOf.
-/
import Derived.Test.YtocllmaikngoaaaDoorHulR
import Derived.Test.YtocllmaikngoaaaDoorVecA
namespace Go.Proofs.YtocllmaikngoaaaDoor
open Go.RowKit
set_option linter.unusedVariables false
theorem asc_ins {xs : List V2} {p : V2} {j : Nat} (h : asc xs) (h1 : ∀ q (hq : q < xs.length), q < j → lt2 xs[q] p) (h2 : ∀ hj : j < xs.length, ¬ lt2 xs[j] p ∧ xs[j] ≠ p) : asc (xs.take j ++ p :: xs.drop j) := by
  have hd : asc (xs.drop j) := List.Pairwise.sublist (List.drop_sublist _ _) h
  have ht : asc (xs.take j) := List.Pairwise.sublist (List.take_sublist _ _) h
  have hp : ∀ x ∈ xs.drop j, lt2 p x := by
    intro x hx
    obtain ⟨i, hi, rfl⟩ := List.getElem_of_mem hx
    simp at hi
    have hj : j < xs.length := by omega
    obtain ⟨n1, n2⟩ := h2 hj
    have hpj : lt2 p xs[j] := ((lt_tri xs[j] p).resolve_left n1).resolve_left n2
    rw [List.getElem_drop]
    by_cases e : i = 0
    · subst e; exact hpj
    · exact lt_trans hpj (List.pairwise_iff_getElem.1 h j (j + i) hj (by omega) (by omega))
  refine List.pairwise_append.2 ⟨ht, List.pairwise_cons.2 ⟨hp, hd⟩, ?_⟩
  intro x hx y hy
  obtain ⟨i, hi, rfl⟩ := List.getElem_of_mem hx
  simp at hi
  rw [List.getElem_take]
  have hxp := h1 i (by omega) (by omega)
  rcases List.mem_cons.1 hy with rfl | hy
  · exact hxp
  · exact lt_trans hxp (hp y hy)
theorem mem_ins {xs : List V2} {p a : V2} {j : Nat} : a ∈ xs.take j ++ p :: xs.drop j ↔ a = p ∨ a ∈ xs := by
  rw [List.mem_append, List.mem_cons]
  conv => rhs; rw [← List.take_append_drop j xs, List.mem_append]
  constructor
  · rintro (h | h | h)
    · exact .inr (.inl h)
    · exact .inl h
    · exact .inr (.inr h)
  · rintro (h | h | h)
    · exact .inr (.inl h)
    · exact .inl h
    · exact .inr (.inr h)
theorem mem_take_succ {l : List V2} {k : Nat} (hk : k < l.length) (a : V2) : a ∈ l.take (k + 1) ↔ a = l[k] ∨ a ∈ l.take k := by
  rw [List.take_succ_eq_append_getElem hk, List.mem_append, List.mem_singleton]
  exact Or.comm
theorem chain_ne {xs : List V2} (h : xs ≠ []) : chain xs ≠ [] := by
  induction xs using snoc_ind with
  | h0 => exact absurd rfl h
  | h1 xs p _ => rw [chain_snoc]; exact push_ne _ _
set_option maxRecDepth 100000 in
set_option maxHeartbeats 4000000 in
theorem spec_HullOf (w : World) (B : Nat) (hB : B ≤ w.heap.size) (A : Option Addr) (n c : Nat) (l : List V2) (R : RdV w B A n l) :
    Calls Tryd.prog 65 #[.slice A n c] w fun e w' => ∃ v, e = .returned v ∧ OwnV w' w.heap.size w'.heap.size 31 v (hullV l).length (hullV l) ∧ Below w.heap.size w w' := by
  obtain ⟨hn, hx, hl, hwf⟩ := R
  by_cases h64 : 64 < n
  · have HN : Hid (hullV l = []) := by show _ = _; unfold hullV; rw [if_neg]; intro h; have := h.1; omega
    clear hx
    go_enter Tryd.func65, Tryd.ntmps65
    go_wp2_with fail
    go_ret
    exact ⟨_, rfl, by rw [HN.out]; exact OwnV.nil _ _ _ _, below_new _ _⟩
  have ho0 : (w.alloc (.cells #[] 31)).ownsRow w.heap.size 31 2 (.slice (some ⟨w.heap.size, 0, none⟩) 0 0) 0 [] := World.ownsRow_made w #[] 0 (Nat.le_refl _) (by unfold maxLen; omega) rfl
  go_enter Tryd.func65, Tryd.ntmps65
  go_wp2_with fail
  go_loopw [3, 19] (fun v i wr => ∃ (k : Nat) (xs : List V2) (g0 c0 : Nat), k ≤ n ∧ i = .int .i64 k ∧ xs.length ≤ k ∧ v = .slice (some ⟨g0, 0, none⟩) xs.length c0 ∧ OwnV wr w.heap.size wr.heap.size 31 (.slice (some ⟨g0, 0, none⟩) xs.length c0) xs.length xs ∧ Hid (asc xs) ∧ Hid (∀ a, a ∈ xs ↔ a ∈ l.take k) ∧ Hid (∀ j (h : j < l.length), j < k → vecV l[j] = true) ∧ Below w.heap.size w wr) (fun _ i _ => n - (intOf i).toNat)
  case atStart => exact ⟨0, [], w.heap.size, 0, Nat.zero_le _, rfl, Nat.zero_le _, rfl, OwnV.of ho0, by show asc []; simp [asc], fun a => by simp, fun j _ h => absurd h (Nat.not_lt_zero _), below_new _ _⟩
  case round =>
    clear ho0
    obtain ⟨k, xs, g0, c0, hk, rfl, hxk, rfl, o, HA, HM, HV, hbel⟩ := hrel
    have hws := hbel.size
    by_cases hlt : k < n
    · obtain ⟨ad, hA, hb1, hc1, hc2⟩ := (hx.below (hbel.mono hB)).vec (k := k) (by omega)
      have hkl : k < l.length := by omega
      obtain ⟨f1, f2⟩ := wfV_at hwf hkl
      have HC := hide (fun (W : World) => spec_IsValidVec W l[k].1 l[k].2 f1 f2)
      have HMS := hide (mem_take_succ hkl)
      have HL := hide (fun (xs' : List V2) (hs : ∀ a, a ∈ xs' → a ∈ l) => fun (q : Nat) (hq : q < xs'.length) => hwf _ (hs _ (List.getElem_mem hq)))
      generalize hlk : l[k] = u at *
      obtain ⟨x0, y0⟩ := u
      simp only at hc1 hc2 f1 f2 HC
      obtain ⟨W0, hW0⟩ : ∃ W0, W0 = wr.alloc (.cells #[.int .i64 x0, .int .i64 y0] 31) := ⟨_, rfl⟩
      have ka : Box W0 wr.heap.size 31 #[.int .i64 x0, .int .i64 y0] := by rw [hW0]; exact Box.last _ _ _ rfl
      have hT : Below wr.heap.size wr W0 := by rw [hW0]; exact below_new _ _
      subst hA
      go_upto_region 7 with fail
      rw [← hW0]
      clear hW0 hc1 hc2
      obtain ⟨ya0, ya1⟩ := ka.cells2
      go_wp2_with fail
      refine (HC.out _).mono ?_
      rintro e w1 ⟨rfl, hb1⟩
      clear ya0 ya1 HC
      have kb := ka.below hb1 ka.lt
      have hT2 := hT.trans (hb1.mono hT.size)
      have o1 := o.below hT2 (Nat.le_refl _)
      have hbel2 := hbel.trans (hT2.mono hws)
      have hwk := kb.lt
      clear o hT hb1 ka
      by_cases ev : vecB x0 y0 = true
      case neg =>
        have ev : vecB x0 y0 = false := by simpa using ev
        have HN : Hid (hullV l = []) := by
          show _ = _
          unfold hullV
          rw [if_neg]
          intro h
          have := allV_no hkl (by rw [hlk]; exact ev)
          rw [h.2] at this; cases this
        rw [ev]
        go_wp2_with fail
        go_ret
        exact ⟨_, rfl, by rw [HN.out]; exact OwnV.nil _ _ _ _, hbel2⟩
      rw [ev]
      go_wp2_with fail
      obtain ⟨wo, ewo⟩ : ∃ x, x = wr := ⟨_, rfl⟩
      subst ewo
      go_loopw [6] (fun v wi => ∃ j : Nat, j ≤ xs.length ∧ v = .int .i64 j ∧ Hid (∀ q (hq : q < xs.length), q < j → lt2 xs[q] (x0, y0)) ∧ Below w1.heap.size w1 wi) (fun v _ => xs.length - (intOf v).toNat)
      case atStart => exact ⟨0, Nat.zero_le _, rfl, fun q _ h => absurd h (Nat.not_lt_zero _), Below.refl _ _⟩
      case round =>
        obtain ⟨j, hj, rfl, HJ, hbi⟩ := hrel
        have hbis := hbi.size
        have kaw := kb.below hbi kb.lt
        have ow := o1.below hbi (by omega)
        have hj0 : (0 : Int) ≤ (j : Int) := Int.natCast_nonneg _
        by_cases hjl : j < xs.length
        · have hc3 : wr.cell? ⟨g0, j * 2, none⟩ = some (.int .i64 xs[j].1) := (ow.1.cellAt (j * 2) (by omega)).trans (fl_at hjl).1
          have hc4 : wr.cell? ⟨g0, j * 2 + 1, none⟩ = some (.int .i64 xs[j].2) := (ow.1.cellAt (j * 2 + 1) (by omega)).trans (fl_at hjl).2
          obtain ⟨g1, g2⟩ := HL.out xs (fun a ha => List.mem_of_mem_take ((HM.out a).1 ha)) j hjl
          have HT := hide (fun (W : World) => spec_Less W xs[j] (x0, y0) g1 g2 f1 f2)
          have hk3 : g0 < wr.heap.size := (ow.1.lt g0 rfl).2
          have hj1 : (j : Int) < (xs.length : Int) := by omega
          obtain ⟨yx0, yx1⟩ := kaw.cells2
          have hla := kaw.lt
          have HE : Hid (xs[j] = (xs[j].1, xs[j].2)) := rfl
          simp only at HT
          generalize hx1 : xs[j].1 = x1 at *
          generalize hy1 : xs[j].2 = y1 at *
          by_cases hless : lt2 xs[j] (x0, y0)
          · rw [decide_eq_true hless] at HT
            have HJ2 : Hid (∀ q (hq : q < xs.length), q < j + 1 → lt2 xs[q] (x0, y0)) := fun q hq hqj => by
              by_cases eq : q = j
              · subst eq; exact hless
              · exact HJ.out q hq (by omega)
            have HX1 := hide hx1
            have HY1 := hide hy1
            have HLS := hide hless
            clear hx1 hy1 hless
            go_wp2_with fail
            go_region_held3 (fun w' => w'.cell? ⟨wo.heap.size, 0, none⟩ = some (.int .i64 x0) ∧ w'.cell? ⟨wo.heap.size, 1, none⟩ = some (.int .i64 y0) ∧ w'.cell? ⟨g0, j * 2, none⟩ = some (.int .i64 x1) ∧ w'.cell? ⟨g0, j * 2 + 1, none⟩ = some (.int .i64 y1) ∧ Below wr.heap.size wr w')
              (first | exact ⟨yx0, yx1, hc3, hc4, (Below.refl _ _).drew⟩ | exact ⟨(hb8.cell hla).trans yx0, (hb8.cell (p := ⟨_, _, none⟩) hla).trans yx1, keep1 hb8 (ad := ⟨g0, j * 2, none⟩) hk3 hc3, keep1 hb8 (ad := ⟨g0, j * 2 + 1, none⟩) hk3 hc4, undrew hb8⟩)
              (first | (go_at_call 73; refine (HT.out _).mono ?_; rintro e w20 ⟨rfl, hb8⟩))
            go_wp2_with fail
            go_roundw
            case rel => exact ⟨j + 1, by omega, by go_num, HJ2, hbi.trans ((undrew hb8).mono hbis)⟩
            case measure => simp [intOf]; omega
          · rw [decide_eq_false hless] at HT
            have HX1 := hide hx1
            have HY1 := hide hy1
            have HLS := hide hless
            clear hx1 hy1 hless
            go_wp2_with fail
            go_region_held3 (fun w' => w'.cell? ⟨wo.heap.size, 0, none⟩ = some (.int .i64 x0) ∧ w'.cell? ⟨wo.heap.size, 1, none⟩ = some (.int .i64 y0) ∧ w'.cell? ⟨g0, j * 2, none⟩ = some (.int .i64 x1) ∧ w'.cell? ⟨g0, j * 2 + 1, none⟩ = some (.int .i64 y1) ∧ Below wr.heap.size wr w')
              (first | exact ⟨yx0, yx1, hc3, hc4, (Below.refl _ _).drew⟩ | exact ⟨(hb8.cell hla).trans yx0, (hb8.cell (p := ⟨_, _, none⟩) hla).trans yx1, keep1 hb8 (ad := ⟨g0, j * 2, none⟩) hk3 hc3, keep1 hb8 (ad := ⟨g0, j * 2 + 1, none⟩) hk3 hc4, undrew hb8⟩)
              (first | (go_at_call 73; refine (HT.out _).mono ?_; rintro e w20 ⟨rfl, hb8⟩))
            have hbx := hbi.trans ((undrew hb8).mono hbis)
            have hd3 := keep1 (undrew hb8) (ad := ⟨g0, j * 2, none⟩) hk3 hc3
            have hd4 := keep1 (undrew hb8) (ad := ⟨g0, j * 2 + 1, none⟩) hk3 hc4
            have hdx := (kaw.below (undrew hb8) hla)
            obtain ⟨w2, ew2⟩ : ∃ x, x = w20 := ⟨_, rfl⟩
            subst ew2
            obtain ⟨yw0, yw1⟩ := hdx.cells2
            clear hc3 hc4 yx0 yx1
            have hj2' : j < xs.length := hjl
            have HMN := hide (fun (e : x1 = x0 ∧ y1 = y0) => fun a => show a ∈ xs ↔ a ∈ l.take (k + 1) by
              rw [HMS.out a, ← HM.out a]
              refine ⟨fun h => .inr h, fun h => ?_⟩
              rcases h with h | h
              · rw [h, show ((x0, y0) : V2) = xs[j] by rw [HE.out, e.1, e.2]]
                exact List.getElem_mem hjl
              · exact h)
            have HVN : Hid (∀ j (h : j < l.length), j < k + 1 → vecV l[j] = true) := fun j h hj => by
              by_cases e : j = k
              · subst e; rw [hlk]; exact ev
              · exact HV.out j h (by omega)
            by_cases e1 : x1 = x0
            · by_cases e2 : y1 = y0
              · have HMN2 := hide (HMN.out ⟨e1, e2⟩)
                subst e1 e2
                clear HMN
                have hz1 := hbx.size
                have hz2 := hT2.size
                go_wp2_with fail
                go_quiet (fail)
                go_wp2_with fail
                go_roundw
                case rel => exact ⟨k + 1, xs, g0, c0, by omega, by go_num, by omega, rfl, ((o1.below hbx (by omega)).below (below_dN (Below.refl _ _) _) (by omega)).wider (Nat.le_refl _) (by have := hbx.size; have := hT2.size; have := (below_dN (Below.refl w2.heap.size w2) nq).size; omega), HA, HMN2, HVN, below_dN (hbel2.trans (hbx.mono hbel2.size)) _⟩
                case measure => simp [intOf]; omega
              · have he : (y1 == y0) = false := by simpa using e2
                have H2 : Hid (∀ hj : j < xs.length, ¬ lt2 xs[j] (x0, y0) ∧ xs[j] ≠ (x0, y0)) := fun h => ⟨HLS.out, fun e => e2 (by rw [← HY1.out, e])⟩
                clear HMN e2
                go_wp2_with fail
                go_quiet (fail)
                have hbx := below_dN hbx nq
                generalize w2.drewN nq = Wx at hbx ⊢
                have ox := o1.below hbx (by omega)
                have kx := kb.below hbx kb.lt
                have hxs := hbx.size
                have hcap := ox.cap
                have hc63 := hcap.2
                unfold maxLen at hc63
                have R1 := (OwnV.rd ox).takeV j
                have R2 := OwnV.rd ox
                have hE := World.ownsRow_made (e := 31) (size := 2) Wx #[] 0 (Nat.le_refl _) (by unfold maxLen; omega) rfl
                have hb3 : Below Wx.heap.size Wx (Wx.alloc (.cells #[] 31)) := below_new _ _
                have R1' := R1.below hb3
                have hjc : j ≤ c0 := by omega
                have hjc2 : (j : Int) ≤ (c0 : Int) := by omega
                have hj2 : (j : Int) ≤ (xs.length : Int) := by omega
                have hj3 : (0 : Int) ≤ (j : Int) := Int.natCast_nonneg _
                have hlt1 : (fl (xs.take j)).length = j * 2 := by rw [fl_len, List.length_take]; omega
                go_upto_region 14 with (at_builtin; refine wpList_append_rdS Tryd.sliceVec rfl _ _ rfl (Wx.alloc (.cells #[] 31)) Wx.heap.size _ 0 [] hE rfl _ _ j c0 (fl (xs.take j)) rfl hlt1 R1' (fl_one _) (by unfold maxLen; omega) (by omega) (by rw [alloc_size]; omega) ?_; intro v4 w4 hown4 hb4)
                rw [List.nil_append, Nat.zero_add] at hown4
                have hbx4 := hb3.trans hb4
                have kx4 := kx.below hbx4 kx.lt
                have hs4 := hbx4.size
                obtain ⟨yv0, yv1⟩ := kx4.cells2
                clear kx4
                go_upto_region 15 with (at_builtin; refine wpList_append1 Tryd.sliceVec rfl _ _ rfl w4 Wx.heap.size _ _ _ hown4 rfl #[.int .i64 x0, .int .i64 y0] 1 rfl rfl (by simp [Value.oneCell']) (by omega) (by omega) (by omega) ?_; intro v5 w5 hown5 hb5)
                clear yv0 yv1
                have hbx5 := hbx4.trans hb5
                have hlt2 : (fl (xs.drop j)).length = (xs.length - j) * 2 := by rw [fl_len, List.length_drop]
                have hs5 := hbx5.size
                by_cases hcj : c0 = j
                · have R3 : Rd w5 Wx.heap.size (some ⟨g0, 0, none⟩) (fl (xs.drop j)) := by
                    left
                    rw [List.drop_of_length_le (by omega)]; rfl
                  go_upto_region 16 with (at_builtin; refine wpList_append_rdS Tryd.sliceVec rfl _ _ rfl w5 Wx.heap.size _ (j + 1) _ hown5 rfl _ _ (xs.length - j) _ (fl (xs.drop j)) rfl hlt2 R3 (fl_one _) (by unfold maxLen; omega) (by omega) (by omega) ?_; intro v6 w6 hown6 hb6)
                  have hlen : (xs.take j ++ (x0, y0) :: xs.drop j).length = j + 1 + (xs.length - j) := by simp <;> omega
                  have hfl : fl (xs.take j) ++ [Value.int .i64 x0, Value.int .i64 y0] ++ fl (xs.drop j) = fl (xs.take j ++ (x0, y0) :: xs.drop j) := by rw [fl_append, fl_cons]; simp
                  have HAN : Hid (asc (xs.take j ++ (x0, y0) :: xs.drop j)) := asc_ins HA.out HJ.out H2.out
                  have HMN : Hid (∀ a, a ∈ xs.take j ++ (x0, y0) :: xs.drop j ↔ a ∈ l.take (k + 1)) := fun a => by rw [mem_ins, HMS.out a, HM.out a]
                  have hown7 : w6.ownsRow Wx.heap.size 31 2 v6 (j + 1 + (xs.length - j)) (fl (xs.take j ++ (x0, y0) :: xs.drop j)) := by rw [← hfl]; exact hown6
                  rw [← hlen] at hown7
                  have hlen2 : (xs.take j ++ (x0, y0) :: xs.drop j).length = xs.length + 1 := by omega
                  obtain ⟨g6, c6, rfl⟩ : ∃ g c, v6 = .slice (some ⟨g, 0, none⟩) (xs.take j ++ (x0, y0) :: xs.drop j).length c := by
                    rcases own_form hown7 with ⟨_, h, _⟩ | ⟨g, c, h, _, _⟩
                    · omega
                    · exact ⟨g, c, h⟩
                  have hbx6 := hbel2.trans ((hbx.trans ((hbx5.trans hb6).mono hxs)).mono hbel2.size)
                  have ho7 : OwnV w6 w.heap.size w6.heap.size 31 _ _ (xs.take j ++ (x0, y0) :: xs.drop j) := OwnV.of_row (own_lower hown7 (by have := hbel2.size; omega)) (Nat.le_refl _)
                  clear hown6 hown7 hfl
                  generalize xs.take j ++ (x0, y0) :: xs.drop j = ys at *
                  go_wp2_with fail
                  go_roundw
                  case rel => exact ⟨k + 1, ys, g6, c6, by omega, by go_num, by omega, rfl, ho7, HAN, HMN, HVN, hbx6⟩
                  case measure => simp [intOf]; omega
                · have R3 : Rd w5 Wx.heap.size (some ⟨g0, j * 2, none⟩) (fl (xs.drop j)) := by
                    have := R2.dropV j
                    rw [show (⟨g0, 0, none⟩ : Addr).add (j * 2) = ⟨g0, j * 2, none⟩ by rw [Addr.add_lit, Nat.zero_add]] at this
                    exact this.below hbx5
                  go_upto_region 16 with (at_builtin; refine wpList_append_rdS Tryd.sliceVec rfl _ _ rfl w5 Wx.heap.size _ (j + 1) _ hown5 rfl _ _ (xs.length - j) _ (fl (xs.drop j)) rfl hlt2 R3 (fl_one _) (by unfold maxLen; omega) (by omega) (by omega) ?_; intro v6 w6 hown6 hb6)
                  have hlen : (xs.take j ++ (x0, y0) :: xs.drop j).length = j + 1 + (xs.length - j) := by simp <;> omega
                  have hfl : fl (xs.take j) ++ [Value.int .i64 x0, Value.int .i64 y0] ++ fl (xs.drop j) = fl (xs.take j ++ (x0, y0) :: xs.drop j) := by rw [fl_append, fl_cons]; simp
                  have HAN : Hid (asc (xs.take j ++ (x0, y0) :: xs.drop j)) := asc_ins HA.out HJ.out H2.out
                  have HMN : Hid (∀ a, a ∈ xs.take j ++ (x0, y0) :: xs.drop j ↔ a ∈ l.take (k + 1)) := fun a => by rw [mem_ins, HMS.out a, HM.out a]
                  have hown7 : w6.ownsRow Wx.heap.size 31 2 v6 (j + 1 + (xs.length - j)) (fl (xs.take j ++ (x0, y0) :: xs.drop j)) := by rw [← hfl]; exact hown6
                  rw [← hlen] at hown7
                  have hlen2 : (xs.take j ++ (x0, y0) :: xs.drop j).length = xs.length + 1 := by omega
                  obtain ⟨g6, c6, rfl⟩ : ∃ g c, v6 = .slice (some ⟨g, 0, none⟩) (xs.take j ++ (x0, y0) :: xs.drop j).length c := by
                    rcases own_form hown7 with ⟨_, h, _⟩ | ⟨g, c, h, _, _⟩
                    · omega
                    · exact ⟨g, c, h⟩
                  have hbx6 := hbel2.trans ((hbx.trans ((hbx5.trans hb6).mono hxs)).mono hbel2.size)
                  have ho7 : OwnV w6 w.heap.size w6.heap.size 31 _ _ (xs.take j ++ (x0, y0) :: xs.drop j) := OwnV.of_row (own_lower hown7 (by have := hbel2.size; omega)) (Nat.le_refl _)
                  clear hown6 hown7 hfl
                  generalize xs.take j ++ (x0, y0) :: xs.drop j = ys at *
                  go_wp2_with fail
                  go_roundw
                  case rel => exact ⟨k + 1, ys, g6, c6, by omega, by go_num, by omega, rfl, ho7, HAN, HMN, HVN, hbx6⟩
                  case measure => simp [intOf]; omega
            · have he : (x1 == x0) = false := by simpa using e1
              have H2 : Hid (∀ hj : j < xs.length, ¬ lt2 xs[j] (x0, y0) ∧ xs[j] ≠ (x0, y0)) := fun h => ⟨HLS.out, fun e => e1 (by rw [← HX1.out, e])⟩
              clear HMN e1
              go_wp2_with fail
              go_quiet (fail)
              have hbx := below_dN hbx nq
              generalize w2.drewN nq = Wx at hbx ⊢
              have ox := o1.below hbx (by omega)
              have kx := kb.below hbx kb.lt
              have hxs := hbx.size
              have hcap := ox.cap
              have hc63 := hcap.2
              unfold maxLen at hc63
              have R1 := (OwnV.rd ox).takeV j
              have R2 := OwnV.rd ox
              have hE := World.ownsRow_made (e := 31) (size := 2) Wx #[] 0 (Nat.le_refl _) (by unfold maxLen; omega) rfl
              have hb3 : Below Wx.heap.size Wx (Wx.alloc (.cells #[] 31)) := below_new _ _
              have R1' := R1.below hb3
              have hjc : j ≤ c0 := by omega
              have hjc2 : (j : Int) ≤ (c0 : Int) := by omega
              have hj2 : (j : Int) ≤ (xs.length : Int) := by omega
              have hj3 : (0 : Int) ≤ (j : Int) := Int.natCast_nonneg _
              have hlt1 : (fl (xs.take j)).length = j * 2 := by rw [fl_len, List.length_take]; omega
              go_upto_region 14 with (at_builtin; refine wpList_append_rdS Tryd.sliceVec rfl _ _ rfl (Wx.alloc (.cells #[] 31)) Wx.heap.size _ 0 [] hE rfl _ _ j c0 (fl (xs.take j)) rfl hlt1 R1' (fl_one _) (by unfold maxLen; omega) (by omega) (by rw [alloc_size]; omega) ?_; intro v4 w4 hown4 hb4)
              rw [List.nil_append, Nat.zero_add] at hown4
              have hbx4 := hb3.trans hb4
              have kx4 := kx.below hbx4 kx.lt
              have hs4 := hbx4.size
              obtain ⟨yv0, yv1⟩ := kx4.cells2
              clear kx4
              go_upto_region 15 with (at_builtin; refine wpList_append1 Tryd.sliceVec rfl _ _ rfl w4 Wx.heap.size _ _ _ hown4 rfl #[.int .i64 x0, .int .i64 y0] 1 rfl rfl (by simp [Value.oneCell']) (by omega) (by omega) (by omega) ?_; intro v5 w5 hown5 hb5)
              clear yv0 yv1
              have hbx5 := hbx4.trans hb5
              have hlt2 : (fl (xs.drop j)).length = (xs.length - j) * 2 := by rw [fl_len, List.length_drop]
              have hs5 := hbx5.size
              by_cases hcj : c0 = j
              · have R3 : Rd w5 Wx.heap.size (some ⟨g0, 0, none⟩) (fl (xs.drop j)) := by
                  left
                  rw [List.drop_of_length_le (by omega)]; rfl
                go_upto_region 16 with (at_builtin; refine wpList_append_rdS Tryd.sliceVec rfl _ _ rfl w5 Wx.heap.size _ (j + 1) _ hown5 rfl _ _ (xs.length - j) _ (fl (xs.drop j)) rfl hlt2 R3 (fl_one _) (by unfold maxLen; omega) (by omega) (by omega) ?_; intro v6 w6 hown6 hb6)
                have hlen : (xs.take j ++ (x0, y0) :: xs.drop j).length = j + 1 + (xs.length - j) := by simp <;> omega
                have hfl : fl (xs.take j) ++ [Value.int .i64 x0, Value.int .i64 y0] ++ fl (xs.drop j) = fl (xs.take j ++ (x0, y0) :: xs.drop j) := by rw [fl_append, fl_cons]; simp
                have HAN : Hid (asc (xs.take j ++ (x0, y0) :: xs.drop j)) := asc_ins HA.out HJ.out H2.out
                have HMN : Hid (∀ a, a ∈ xs.take j ++ (x0, y0) :: xs.drop j ↔ a ∈ l.take (k + 1)) := fun a => by rw [mem_ins, HMS.out a, HM.out a]
                have hown7 : w6.ownsRow Wx.heap.size 31 2 v6 (j + 1 + (xs.length - j)) (fl (xs.take j ++ (x0, y0) :: xs.drop j)) := by rw [← hfl]; exact hown6
                rw [← hlen] at hown7
                have hlen2 : (xs.take j ++ (x0, y0) :: xs.drop j).length = xs.length + 1 := by omega
                obtain ⟨g6, c6, rfl⟩ : ∃ g c, v6 = .slice (some ⟨g, 0, none⟩) (xs.take j ++ (x0, y0) :: xs.drop j).length c := by
                  rcases own_form hown7 with ⟨_, h, _⟩ | ⟨g, c, h, _, _⟩
                  · omega
                  · exact ⟨g, c, h⟩
                have hbx6 := hbel2.trans ((hbx.trans ((hbx5.trans hb6).mono hxs)).mono hbel2.size)
                have ho7 : OwnV w6 w.heap.size w6.heap.size 31 _ _ (xs.take j ++ (x0, y0) :: xs.drop j) := OwnV.of_row (own_lower hown7 (by have := hbel2.size; omega)) (Nat.le_refl _)
                clear hown6 hown7 hfl
                generalize xs.take j ++ (x0, y0) :: xs.drop j = ys at *
                go_wp2_with fail
                go_roundw
                case rel => exact ⟨k + 1, ys, g6, c6, by omega, by go_num, by omega, rfl, ho7, HAN, HMN, HVN, hbx6⟩
                case measure => simp [intOf]; omega
              · have R3 : Rd w5 Wx.heap.size (some ⟨g0, j * 2, none⟩) (fl (xs.drop j)) := by
                  have := R2.dropV j
                  rw [show (⟨g0, 0, none⟩ : Addr).add (j * 2) = ⟨g0, j * 2, none⟩ by rw [Addr.add_lit, Nat.zero_add]] at this
                  exact this.below hbx5
                go_upto_region 16 with (at_builtin; refine wpList_append_rdS Tryd.sliceVec rfl _ _ rfl w5 Wx.heap.size _ (j + 1) _ hown5 rfl _ _ (xs.length - j) _ (fl (xs.drop j)) rfl hlt2 R3 (fl_one _) (by unfold maxLen; omega) (by omega) (by omega) ?_; intro v6 w6 hown6 hb6)
                have hlen : (xs.take j ++ (x0, y0) :: xs.drop j).length = j + 1 + (xs.length - j) := by simp <;> omega
                have hfl : fl (xs.take j) ++ [Value.int .i64 x0, Value.int .i64 y0] ++ fl (xs.drop j) = fl (xs.take j ++ (x0, y0) :: xs.drop j) := by rw [fl_append, fl_cons]; simp
                have HAN : Hid (asc (xs.take j ++ (x0, y0) :: xs.drop j)) := asc_ins HA.out HJ.out H2.out
                have HMN : Hid (∀ a, a ∈ xs.take j ++ (x0, y0) :: xs.drop j ↔ a ∈ l.take (k + 1)) := fun a => by rw [mem_ins, HMS.out a, HM.out a]
                have hown7 : w6.ownsRow Wx.heap.size 31 2 v6 (j + 1 + (xs.length - j)) (fl (xs.take j ++ (x0, y0) :: xs.drop j)) := by rw [← hfl]; exact hown6
                rw [← hlen] at hown7
                have hlen2 : (xs.take j ++ (x0, y0) :: xs.drop j).length = xs.length + 1 := by omega
                obtain ⟨g6, c6, rfl⟩ : ∃ g c, v6 = .slice (some ⟨g, 0, none⟩) (xs.take j ++ (x0, y0) :: xs.drop j).length c := by
                  rcases own_form hown7 with ⟨_, h, _⟩ | ⟨g, c, h, _, _⟩
                  · omega
                  · exact ⟨g, c, h⟩
                have hbx6 := hbel2.trans ((hbx.trans ((hbx5.trans hb6).mono hxs)).mono hbel2.size)
                have ho7 : OwnV w6 w.heap.size w6.heap.size 31 _ _ (xs.take j ++ (x0, y0) :: xs.drop j) := OwnV.of_row (own_lower hown7 (by have := hbel2.size; omega)) (Nat.le_refl _)
                clear hown6 hown7 hfl
                generalize xs.take j ++ (x0, y0) :: xs.drop j = ys at *
                go_wp2_with fail
                go_roundw
                case rel => exact ⟨k + 1, ys, g6, c6, by omega, by go_num, by omega, rfl, ho7, HAN, HMN, HVN, hbx6⟩
                case measure => simp [intOf]; omega
        · obtain rfl : j = xs.length := by omega
          have hg1 : ¬ (xs.length < xs.length) := Nat.lt_irrefl _
          have H2 : Hid (∀ hj : xs.length < xs.length, ¬ lt2 xs[xs.length] (x0, y0) ∧ xs[xs.length] ≠ (x0, y0)) := fun h => absurd h (Nat.lt_irrefl _)
          have HVN : Hid (∀ j (h : j < l.length), j < k + 1 → vecV l[j] = true) := fun j h hj => by
            by_cases e : j = k
            · subst e; rw [hlk]; exact ev
            · exact HV.out j h (by omega)
          go_wp2_with fail
          go_quiet (fail)
          have hbw := below_dN hbi nq
          generalize wr.drewN nq = w2 at hbw ⊢
          go_wp2_with fail
          go_quiet (fail)
          have hbx := below_dN hbw nq
          generalize w2.drewN nq = Wx at hbx ⊢
          have ox := o1.below hbx (by omega)
          have kx := kb.below hbx kb.lt
          have hxs := hbx.size
          have hcap := ox.cap
          have hc63 := hcap.2
          unfold maxLen at hc63
          have R1 := (OwnV.rd ox).takeV xs.length
          have R2 := OwnV.rd ox
          have hE := World.ownsRow_made (e := 31) (size := 2) Wx #[] 0 (Nat.le_refl _) (by unfold maxLen; omega) rfl
          have hb3 : Below Wx.heap.size Wx (Wx.alloc (.cells #[] 31)) := below_new _ _
          have R1' := R1.below hb3
          have hjc : xs.length ≤ c0 := by omega
          have hjc2 : (xs.length : Int) ≤ (c0 : Int) := by omega
          have hj2 : (xs.length : Int) ≤ (xs.length : Int) := by omega
          have hj3 : (0 : Int) ≤ (xs.length : Int) := Int.natCast_nonneg _
          have hlt1 : (fl (xs.take xs.length)).length = xs.length * 2 := by rw [fl_len, List.length_take]; omega
          go_upto_region 14 with (at_builtin; refine wpList_append_rdS Tryd.sliceVec rfl _ _ rfl (Wx.alloc (.cells #[] 31)) Wx.heap.size _ 0 [] hE rfl _ _ xs.length c0 (fl (xs.take xs.length)) rfl hlt1 R1' (fl_one _) (by unfold maxLen; omega) (by omega) (by rw [alloc_size]; omega) ?_; intro v4 w4 hown4 hb4)
          rw [List.nil_append, Nat.zero_add] at hown4
          have hbx4 := hb3.trans hb4
          have kx4 := kx.below hbx4 kx.lt
          have hs4 := hbx4.size
          obtain ⟨yv0, yv1⟩ := kx4.cells2
          clear kx4
          go_upto_region 15 with (at_builtin; refine wpList_append1 Tryd.sliceVec rfl _ _ rfl w4 Wx.heap.size _ _ _ hown4 rfl #[.int .i64 x0, .int .i64 y0] 1 rfl rfl (by simp [Value.oneCell']) (by omega) (by omega) (by omega) ?_; intro v5 w5 hown5 hb5)
          clear yv0 yv1
          have hbx5 := hbx4.trans hb5
          have hlt2 : (fl (xs.drop xs.length)).length = 0 * 2 := by rw [fl_len, List.length_drop, Nat.sub_self]
          have hs5 := hbx5.size
          by_cases hcj : c0 = xs.length
          · have R3 : Rd w5 Wx.heap.size (some ⟨g0, 0, none⟩) (fl (xs.drop xs.length)) := by
              left
              rw [List.drop_of_length_le (by omega)]; rfl
            go_upto_region 16 with (at_builtin; refine wpList_append_rdS Tryd.sliceVec rfl _ _ rfl w5 Wx.heap.size _ (xs.length + 1) _ hown5 rfl _ _ 0 _ (fl (xs.drop xs.length)) rfl hlt2 R3 (fl_one _) (by unfold maxLen; omega) (by omega) (by omega) ?_; intro v6 w6 hown6 hb6)
            have hlen : (xs.take xs.length ++ (x0, y0) :: xs.drop xs.length).length = xs.length + 1 := by simp <;> omega
            have hfl : fl (xs.take xs.length) ++ [Value.int .i64 x0, Value.int .i64 y0] ++ fl (xs.drop xs.length) = fl (xs.take xs.length ++ (x0, y0) :: xs.drop xs.length) := by rw [fl_append, fl_cons]; simp
            have HAN : Hid (asc (xs.take xs.length ++ (x0, y0) :: xs.drop xs.length)) := asc_ins HA.out HJ.out H2.out
            have HMN : Hid (∀ a, a ∈ xs.take xs.length ++ (x0, y0) :: xs.drop xs.length ↔ a ∈ l.take (k + 1)) := fun a => by rw [mem_ins, HMS.out a, HM.out a]
            have hown7 : w6.ownsRow Wx.heap.size 31 2 v6 (xs.length + 1) (fl (xs.take xs.length ++ (x0, y0) :: xs.drop xs.length)) := by rw [← hfl]; exact hown6
            rw [← hlen] at hown7
            have hlen2 : (xs.take xs.length ++ (x0, y0) :: xs.drop xs.length).length = xs.length + 1 := by omega
            obtain ⟨g6, c6, rfl⟩ : ∃ g c, v6 = .slice (some ⟨g, 0, none⟩) (xs.take xs.length ++ (x0, y0) :: xs.drop xs.length).length c := by
              rcases own_form hown7 with ⟨_, h, _⟩ | ⟨g, c, h, _, _⟩
              · omega
              · exact ⟨g, c, h⟩
            have hbx6 := hbel2.trans ((hbx.trans ((hbx5.trans hb6).mono hxs)).mono hbel2.size)
            have ho7 : OwnV w6 w.heap.size w6.heap.size 31 _ _ (xs.take xs.length ++ (x0, y0) :: xs.drop xs.length) := OwnV.of_row (own_lower hown7 (by have := hbel2.size; omega)) (Nat.le_refl _)
            clear hown6 hown7 hfl
            generalize xs.take xs.length ++ (x0, y0) :: xs.drop xs.length = ys at *
            go_wp2_with fail
            go_roundw
            case rel => exact ⟨k + 1, ys, g6, c6, by omega, by go_num, by omega, rfl, ho7, HAN, HMN, HVN, hbx6⟩
            case measure => simp [intOf]; omega
          · have R3 : Rd w5 Wx.heap.size (some ⟨g0, xs.length * 2, none⟩) (fl (xs.drop xs.length)) := by
              have := R2.dropV xs.length
              rw [show (⟨g0, 0, none⟩ : Addr).add (xs.length * 2) = ⟨g0, xs.length * 2, none⟩ by rw [Addr.add_lit, Nat.zero_add]] at this
              exact this.below hbx5
            go_upto_region 16 with (at_builtin; refine wpList_append_rdS Tryd.sliceVec rfl _ _ rfl w5 Wx.heap.size _ (xs.length + 1) _ hown5 rfl _ _ 0 _ (fl (xs.drop xs.length)) rfl hlt2 R3 (fl_one _) (by unfold maxLen; omega) (by omega) (by omega) ?_; intro v6 w6 hown6 hb6)
            have hlen : (xs.take xs.length ++ (x0, y0) :: xs.drop xs.length).length = xs.length + 1 := by simp <;> omega
            have hfl : fl (xs.take xs.length) ++ [Value.int .i64 x0, Value.int .i64 y0] ++ fl (xs.drop xs.length) = fl (xs.take xs.length ++ (x0, y0) :: xs.drop xs.length) := by rw [fl_append, fl_cons]; simp
            have HAN : Hid (asc (xs.take xs.length ++ (x0, y0) :: xs.drop xs.length)) := asc_ins HA.out HJ.out H2.out
            have HMN : Hid (∀ a, a ∈ xs.take xs.length ++ (x0, y0) :: xs.drop xs.length ↔ a ∈ l.take (k + 1)) := fun a => by rw [mem_ins, HMS.out a, HM.out a]
            have hown7 : w6.ownsRow Wx.heap.size 31 2 v6 (xs.length + 1) (fl (xs.take xs.length ++ (x0, y0) :: xs.drop xs.length)) := by rw [← hfl]; exact hown6
            rw [← hlen] at hown7
            have hlen2 : (xs.take xs.length ++ (x0, y0) :: xs.drop xs.length).length = xs.length + 1 := by omega
            obtain ⟨g6, c6, rfl⟩ : ∃ g c, v6 = .slice (some ⟨g, 0, none⟩) (xs.take xs.length ++ (x0, y0) :: xs.drop xs.length).length c := by
              rcases own_form hown7 with ⟨_, h, _⟩ | ⟨g, c, h, _, _⟩
              · omega
              · exact ⟨g, c, h⟩
            have hbx6 := hbel2.trans ((hbx.trans ((hbx5.trans hb6).mono hxs)).mono hbel2.size)
            have ho7 : OwnV w6 w.heap.size w6.heap.size 31 _ _ (xs.take xs.length ++ (x0, y0) :: xs.drop xs.length) := OwnV.of_row (own_lower hown7 (by have := hbel2.size; omega)) (Nat.le_refl _)
            clear hown6 hown7 hfl
            generalize xs.take xs.length ++ (x0, y0) :: xs.drop xs.length = ys at *
            go_wp2_with fail
            go_roundw
            case rel => exact ⟨k + 1, ys, g6, c6, by omega, by go_num, by omega, rfl, ho7, HAN, HMN, HVN, hbx6⟩
            case measure => simp [intOf]; omega
    · obtain rfl : k = n := by omega
      have hm : ∀ a, a ∈ xs ↔ a ∈ l := fun a => by rw [HM.out a, List.take_of_length_le (by omega)]
      have hav : allV l = true := List.all_eq_true.2 fun v hv => by obtain ⟨j, hj, rfl⟩ := List.getElem_of_mem hv; exact HV.out j hj (by omega)
      have HX : Hid (hullV l = hul2 xs) := by
        show _ = _
        unfold hullV
        rw [if_pos ⟨by omega, hav⟩, ← srtV_of HA.out hm]
      have hvx : ∀ x ∈ xs, vecV x = true := allV_sub hav fun x hx => (hm x).1 hx
      have hwx : wfV xs := fun v hv => hwf v ((hm v).1 hv)
      have hasc := HA.out
      clear HM HV hm hav hx HA
      by_cases h3 : xs.length < 3
      · have HX2 : Hid (hullV l = xs) := HX.out.trans (hul2_two xs h3)
        have h3' : (xs.length : Int) < 3 := by omega
        go_wp2_with fail
        go_ret
        exact ⟨_, rfl, by rw [HX2.out]; exact o, hbel⟩
      have h3' : ¬ ((xs.length : Int) < 3) := by omega
      have hE := World.ownsRow_made (e := 31) (size := 2) wr #[] 0 (Nat.le_refl _) (by unfold maxLen; omega) rfl
      obtain ⟨wo, ewo⟩ : ∃ x, x = wr := ⟨_, rfl⟩
      subst ewo
      go_wp2_with fail
      go_loopw [8, 9] (fun v i wi => ∃ j : Nat, j ≤ xs.length ∧ i = .int .i64 ((j : Int) - 1) ∧ wi.ownsRow wo.heap.size 31 2 v (xs.length - j) (fl (xs.drop j).reverse) ∧ Below wo.heap.size wo wi) (fun _ i _ => (intOf i + 1).toNat)
      case atStart => exact ⟨xs.length, Nat.le_refl _, rfl, by simpa [fl] using hE, below_new _ _⟩
      case round =>
        clear hE
        obtain ⟨j, hj, rfl, hown, hbi⟩ := hrel
        by_cases h0 : j = 0
        · subst h0
          have hbs := hbi.size
          have ow := o.below hbi (Nat.le_refl _)
          rw [Nat.sub_zero, List.drop_zero] at hown
          have ob := OwnV.of hown
          clear hown
          obtain ⟨A1, c1, rfl⟩ := ob.form
          obtain ⟨r1, e1⟩ : ∃ b, ∃ s, chain xs = b :: s := by
            match hq : chain xs with
            | b :: s => exact ⟨b, s, rfl⟩
            | [] => exact absurd hq (chain_ne (by intro e; rw [e] at h3; simp at h3))
          obtain ⟨r2, e2⟩ := e1
          obtain ⟨q1, e3⟩ : ∃ b, ∃ s, hiC xs = b :: s := by
            match hq : hiC xs with
            | b :: s => exact ⟨b, s, rfl⟩
            | [] => exact absurd hq (chain_ne (by intro e; have := congrArg List.length e; simp at this; rw [this] at h3; simp at h3))
          obtain ⟨q2, e4⟩ := e3
          have hl1 := chain_len xs
          have hl2 := chain_len xs.reverse
          rw [List.length_reverse] at hl2
          have K1 := hide (spec_Chain wr wr.heap.size (Nat.le_refl _) (some ⟨g0, 0, none⟩) xs.length c0 xs (⟨rfl, OwnV.rd ow, by omega, hwx⟩) hvx)
          have K2 := hide (fun (W : World) (hb : Below wr.heap.size wr W) => spec_Chain W W.heap.size (Nat.le_refl _) A1 xs.length c1 xs.reverse (⟨by simp, OwnV.rd (ob.below hb (Nat.le_refl _)), by omega, fun v hv => hwx v (List.mem_reverse.1 hv)⟩) (fun x hx => hvx x (List.mem_reverse.1 hx)))
          have HX2 : Hid (hullV l = (chain xs).tail.reverse ++ (hiC xs).tail.reverse) := HX.out.trans (by unfold hul2; rw [if_neg (by omega)]; rfl)
          have HS1 : Hid ((chain xs).reverse.take ((chain xs).length - 1) = (chain xs).tail.reverse) := by
            show _ = _
            rw [stack_cut e2, e2]; rfl
          have HS2 : Hid ((hiC xs).reverse.take ((hiC xs).length - 1) = (hiC xs).tail.reverse) := by
            show _ = _
            rw [stack_cut e4, e4]; rfl
          have hn1 : 1 ≤ (chain xs).length := by rw [e2]; simp
          have hn2 : 1 ≤ (hiC xs).length := by rw [e4]; simp
          have ht1 : (chain xs).tail.reverse.length = (chain xs).length - 1 := by simp
          have ht2 : (hiC xs).tail.reverse.length = (hiC xs).length - 1 := by simp
          have hl2 : (hiC xs).length ≤ xs.length := hl2
          have K2 : Hid (∀ (W : World), Below wr.heap.size wr W → Calls Tryd.prog 74 #[.slice A1 xs.length c1] W fun e w' => ∃ v, e = .returned v ∧ OwnV w' W.heap.size w'.heap.size 31 v (hiC xs).length (hiC xs).reverse ∧ Below W.heap.size W w') := K2
          clear e2 e4 HX
          generalize chain xs = T1 at *
          generalize hiC xs = T2 at *
          obtain ⟨m1, hm1⟩ : ∃ m, m = T1.length - 1 := ⟨_, rfl⟩
          obtain ⟨m2, hm2⟩ : ∃ m, m = T2.length - 1 := ⟨_, rfl⟩
          have en1 : T1.length = m1 + 1 := by omega
          have en2 : T2.length = m2 + 1 := by omega
          rw [← hm1] at HS1 ht1
          rw [← hm2] at HS2 ht2
          rw [en1] at K1
          rw [en2] at K2
          go_wp2_with fail
          refine K1.out.mono ?_
          rintro e w2 ⟨v2, rfl, o2, hb2⟩
          go_wp2_with fail
          refine (K2.out w2 hb2).mono ?_
          rintro e w3 ⟨v3, rfl, o3, hb3⟩
          have o2' := o2.below hb3 (Nat.le_refl _)
          obtain ⟨g2, c2, rfl⟩ : ∃ g c, v2 = .slice (some ⟨g, 0, none⟩) (m1 + 1) c := by
            rcases own_form o2'.1 with ⟨_, h, _⟩ | ⟨g, c, h, _, _⟩
            · omega
            · exact ⟨g, c, h⟩
          obtain ⟨g3, c3, rfl⟩ : ∃ g c, v3 = .slice (some ⟨g, 0, none⟩) (m2 + 1) c := by
            rcases own_form o3.1 with ⟨_, h, _⟩ | ⟨g, c, h, _, _⟩
            · omega
            · exact ⟨g, c, h⟩
          have hc2 := o2'.cap
          have hc3 := o3.cap
          have hc22 := hc2.2
          have hc33 := hc3.2
          unfold maxLen at hc22 hc33
          have R1 : Rd w3 w3.heap.size (some ⟨g2, 0, none⟩) (fl T1.tail.reverse) := by rw [← HS1.out]; exact (OwnV.rd o2').takeV m1
          have R2 : Rd w3 w3.heap.size (some ⟨g3, 0, none⟩) (fl T2.tail.reverse) := by rw [← HS2.out]; exact (OwnV.rd o3).takeV m2
          have hE := World.ownsRow_made (e := 31) (size := 2) w3 #[] 0 (Nat.le_refl _) (by unfold maxLen; omega) rfl
          have hb4 : Below w3.heap.size w3 (w3.alloc (.cells #[] 31)) := below_new _ _
          have R1' := R1.below hb4
          have hf1 : (fl T1.tail.reverse).length = m1 * 2 := by rw [fl_len, ht1]
          have hf2 : (fl T2.tail.reverse).length = m2 * 2 := by rw [fl_len, ht2]
          have hk1 : m1 ≤ c2 := by omega
          have hk2 : m2 ≤ c3 := by omega
          have hbw := hbel.trans ((hbi.trans ((hb2.trans (hb3.mono hb2.size)).mono hbs)).mono hws)
          have hb1 : m1 ≤ 64 := by omega
          have hb2' : m2 ≤ 64 := by omega
          clear hm1 hm2 K1 K2 en1 en2 ht1 ht2 hn1 hn2
          go_upto_region 27 with (at_builtin; refine wpList_append_rdS Tryd.sliceVec rfl _ _ rfl (w3.alloc (.cells #[] 31)) w3.heap.size _ 0 [] hE rfl _ _ m1 _ (fl T1.tail.reverse) rfl hf1 R1' (fl_one _) (by unfold maxLen; omega) (by omega) (by rw [alloc_size]; omega) ?_; intro v4 w4 hown4 hb5)
          rw [List.nil_append, Nat.zero_add] at hown4
          have hb6 := hb4.trans hb5
          have R2' := R2.below hb6
          have hs6 := hb6.size
          go_wp2_with (at_builtin; refine wpList_append_rdS Tryd.sliceVec rfl _ _ rfl w4 w3.heap.size _ m1 _ hown4 rfl _ _ m2 _ (fl T2.tail.reverse) rfl hf2 R2' (fl_one _) (by unfold maxLen; omega) (by omega) (by omega) ?_; intro v5 w5 hown5 hb7)
          go_ret
          have hfin : hullV l = T1.tail.reverse ++ T2.tail.reverse := HX2.out
          have hlen : (hullV l).length = m1 + m2 := by rw [hfin, List.length_append]; rw [fl_len] at hf1 hf2; omega
          refine ⟨_, rfl, ?_, hbw.trans ((hb6.trans hb7).mono hbw.size)⟩
          rw [hlen, hfin]
          refine OwnV.of_row (own_lower ?_ hbw.size) (Nat.le_refl _)
          rw [fl_append]; exact hown5
        · obtain ⟨i, rfl⟩ : ∃ i, j = i + 1 := ⟨j - 1, by omega⟩
          have hil : i < xs.length := by omega
          have ow := o.below hbi (Nat.le_refl _)
          have hc3 : wr.cell? ⟨g0, i * 2, none⟩ = some (.int .i64 xs[i].1) := (ow.1.cellAt (i * 2) (by omega)).trans (fl_at hil).1
          have hc4 : wr.cell? ⟨g0, i * 2 + 1, none⟩ = some (.int .i64 xs[i].2) := (ow.1.cellAt (i * 2 + 1) (by omega)).trans (fl_at hil).2
          have HD : Hid ((xs.drop i).reverse = (xs.drop (i + 1)).reverse ++ [(xs[i].1, xs[i].2)]) := by show _ = _; rw [List.drop_eq_getElem_cons hil, List.reverse_cons]
          have e1 : xs.length - i = xs.length - (i + 1) + 1 := by omega
          have ei : ((i + 1 : Nat) : Int) - 1 = (i : Int) := by omega
          have hi0 : (0 : Int) ≤ (i : Int) := Int.natCast_nonneg _
          have hi1 : (i : Int) < (xs.length : Int) := by omega
          have hbs := hbi.size
          rw [ei]
          generalize xs[i].1 = x1 at *
          generalize xs[i].2 = y1 at *
          go_wp2_with (at_builtin; refine wpList_append1 Tryd.sliceVec rfl _ _ rfl wr wo.heap.size _ _ _ hown rfl #[.int .i64 x1, .int .i64 y1] 1 rfl rfl (by simp [Value.oneCell']) (by omega) (by omega) (by omega) ?_; intro v' w9 hown9 hb9)
          go_roundw
          case rel => exact ⟨i, by omega, by go_num, by rw [e1, HD.out, fl_append]; exact hown9, hbi.trans hb9⟩
          case measure => simp [intOf] <;> omega
end Go.Proofs.YtocllmaikngoaaaDoor
