/-
  The program's hulls: contracts: the closure that adds a chain.
-/
import Derived.Test.YtocllmaikngoaaaDoorCompV
import Derived.Test.YtocllmaikngoaaaDoorHulR
namespace Go.Proofs.YtocllmaikngoaaaDoor
open Go.RowKit
set_option linter.unusedVariables false
theorem stack_at2 {pre T : List V2} {b a : V2} {s : List V2} (e : T = b :: a :: s) : (pre ++ T.reverse)[pre.length + T.length - 2]? = some a ∧ (pre ++ T.reverse)[pre.length + T.length - 1]? = some b := by
  obtain ⟨q1, q2⟩ := stack_at e
  have hl : T.length = s.length + 2 := by rw [e]; rfl
  constructor
  · rw [List.getElem?_append_right (by omega), ← q1]; congr 1; omega
  · rw [List.getElem?_append_right (by omega), ← q2]; congr 1; omega
theorem stack_cut2 {pre T : List V2} {b : V2} {s : List V2} (e : T = b :: s) : (pre ++ T.reverse).take (pre.length + T.length - 1) = pre ++ s.reverse := by
  have hl : T.length = s.length + 1 := by rw [e]; rfl
  rw [show pre.length + T.length - 1 = pre.length + (T.length - 1) by omega, List.take_length_add_append, stack_cut e]
theorem own_slice {w : World} {base size n : Nat} {E : TypeId} {v : Value} {xs : List Value} (h : w.ownsRow base E size v n xs) (hn : 0 < n) : ∃ A c, v = .slice A n c := by
  rcases own_form h with ⟨_, h, _⟩ | ⟨g, c, h, _, _⟩
  · omega
  · exact ⟨_, _, h⟩
theorem chain_ne {xs : List V2} (h : xs ≠ []) : chain xs ≠ [] := by
  rw [← List.dropLast_concat_getLast h, chain_snoc]; exact push_ne _ _
/-- how long the list is that a variable holds -/
def lenIn (w : World) (b : Nat) : Nat := match w.cell? ⟨b, 0, none⟩ with
  | some v => sliceLen v
  | none => 0
set_option maxRecDepth 100000 in
set_option maxHeartbeats 3200000 in
theorem impl_addChain (W : World) (bh bp gp n cp : Nat) (AH : Option Addr) (nh ch : Nat) (pre pts : List V2)
    (kh : Box W bh 29 #[.slice AH nh ch]) (oh : OwnV W (bh + 1) W.heap.size 31 (.slice AH nh ch) nh pre)
    (kp : Box W bp 29 #[.slice (some ⟨gp, 0, none⟩) n cp]) (hp : bp < bh) (R : RdV W bh (some ⟨gp, 0, none⟩) n pts) (hv : ∀ x ∈ pts, vecV x = true) (hn0 : 1 ≤ n) (hnh : nh ≤ 1000) (hn64 : n ≤ 1000) :
    Calls Tryd.prog 81 #[.pointer (some ⟨bh, 0, none⟩), .pointer (some ⟨bp, 0, none⟩)] W fun e w' => e = .returned (.tuple #[]) ∧ ∃ A' n' c', n' = (pre ++ (chain pts).tail.reverse).length ∧ Box w' bh 29 #[.slice A' n' c'] ∧ OwnV w' (bh + 1) w'.heap.size 31 (.slice A' n' c') n' (pre ++ (chain pts).tail.reverse) ∧ Below bh W w' := by
  obtain ⟨hn, hx, hl, hwf⟩ := R
  have hpl := oh.len
  have hbW := kh.lt
  have yh0 := kh.cell 0
  have yp0 := kp.cell 0
  simp at yh0 yp0
  go_enter Tryd.func81, Tryd.ntmps81
  go_wp2_with fail
  clear yh0 yp0
  go_loopw [9] (fun i wr => ∃ (k : Nat) (A' : Option Addr) (c' n' : Nat), k ≤ n ∧ i = .int .i64 k ∧ n' = nh + (chain (pts.take k)).length ∧ Box wr bh 29 #[.slice A' n' c'] ∧ OwnV wr (bh + 1) wr.heap.size 31 (.slice A' n' c') n' (pre ++ (chain (pts.take k)).reverse) ∧ Below bh W wr) (fun i _ => n - (intOf i).toNat)
  case atStart => exact ⟨0, AH, ch, nh, Nat.zero_le _, rfl, rfl, kh, by simpa [chain] using oh, Below.refl _ _⟩
  case round =>
    clear kh oh
    obtain ⟨k, A', c', n', hk, rfl, hn', kh, oh, hbel⟩ := hrel
    have hws := hbel.size
    by_cases hlt : k < n
    · obtain ⟨ad, hA, hb1, hc1, hc2⟩ := (hx.below hbel).vec (k := k) (by omega)
      have hkl : k < pts.length := by omega
      obtain ⟨f1, f2⟩ := wfV_at hwf hkl
      have hvp := hv _ (List.getElem_mem hkl)
      have HC := hide (chain_take_succ hkl)
      have hT0m : ∀ x ∈ chain (pts.take k), x ∈ pts := fun x hx => List.mem_of_mem_take (chain_mem _ x hx)
      have hT0l : (chain (pts.take k)).length ≤ n := by have := chain_len (pts.take k); simp at this; omega
      generalize chain (pts.take k) = T0 at *
      generalize pts[k] = u at *
      obtain ⟨x0, y0⟩ := u
      simp only at hc1 hc2 f1 f2
      obtain ⟨W0, hW0⟩ : ∃ W0, W0 = wr.alloc (.cells #[.int .i64 x0, .int .i64 y0] 31) := ⟨_, rfl⟩
      have ka : Box W0 wr.heap.size 31 #[.int .i64 x0, .int .i64 y0] := by rw [hW0]; exact Box.last _ _ _ rfl
      have hT : Below wr.heap.size wr W0 := by rw [hW0]; exact below_new _ _
      have o0 : OwnV W0 (bh + 1) wr.heap.size 31 _ n' (pre ++ T0.reverse) := oh.below hT (Nat.le_refl _)
      have kh0 := kh.below hT kh.lt
      have hbhw := kh.lt
      have hbel0 := hbel.trans (hT.mono (Nat.le_of_lt kh.lt))
      obtain ⟨wo, ewo⟩ : ∃ x, x = wr := ⟨_, rfl⟩
      subst ewo
      have hs0 : W0.heap.size = wo.heap.size + 1 := by rw [hW0, alloc_size]
      cases hA
      simp only [Addr.add_lit, Nat.zero_add] at hc1 hc2
      go_upto_region 4 with fail
      rw [← hW0]
      clear hW0 hc1 hc2 hT oh kh
      go_loopw [] (fun wi => ∃ (S : List V2) (n1 : Nat), n1 = nh + S.length ∧ Hid (push S (x0, y0) = push T0 (x0, y0)) ∧ Hid (∀ x ∈ S, x ∈ pts) ∧ S.length ≤ n ∧ Box wi bh 29 #[.slice A' n1 c'] ∧ Box wi wo.heap.size 31 #[.int .i64 x0, .int .i64 y0] ∧ OwnV wi (bh + 1) wo.heap.size 31 (.slice A' n1 c') n1 (pre ++ S.reverse) ∧ Below bh W0 wi) (fun wi => lenIn wi bh)
      case atStart => exact ⟨T0, n', hn', rfl, hT0m, hT0l, kh0, ka, o0, Below.refl _ _⟩
      case round =>
        clear o0 kh0 ka
        obtain ⟨S, n1, hn1, HP, HM, hSn, khw, kaw, ow, hbi⟩ := hrel
        have hbis := hbi.size
        have hkb := khw.lt
        have hcap := ow.cap
        by_cases h1 : S.length ≤ 1
        · have HSt : Hid (push S (x0, y0) = (x0, y0) :: S) := push_stop fun b a s e => by rw [e] at h1; simp at h1
          have yk := khw.cell 0
          simp only [List.getElem?_toArray, List.getElem?_cons_zero] at yk
          have HN1 := hide hn1
          have hlow : n1 < nh + 2 := by omega
          have hlow2 : (n1 : Int) < (nh : Int) + 2 := by omega
          have hwn : IntKind.i64.wrap ((nh : Int) + 2) = (nh : Int) + 2 := IntWalk.i64_in _ (by omega)
          have hge : ((nh : Int) + 2 ≤ (n1 : Int)) = False := by simp; omega
          have hge2 : (nh + 2 ≤ n1) = False := by simp; omega
          clear hlow hlow2
          clear hn1
          obtain ⟨e, he⟩ : ∃ e, e = S.length := ⟨_, rfl⟩
          go_wp2_with fail
          go_quiet (fail)
          have hbx : Below wr.heap.size wr (wr.drewN nq) := below_dN (Below.refl _ _) nq
          generalize wr.drewN nq = Wx at hbx ⊢
          have HL : Hid (chain (pts.take (k + 1)) = (x0, y0) :: S) := HC.out.trans ((HP.out).symm.trans HSt.out)
          have kax := kaw.below hbx kaw.lt
          have khx := khw.below hbx khw.lt
          have ox := ow.below hbx (by omega)
          have hbelx := hbel0.trans (hbi.trans (hbx.mono (Nat.le_of_lt khw.lt)))
          have hbsx := hbx.size
          have hnS : n1 ≤ 2000 := by have := HN1.out; omega
          have hkx := khx.lt
          have hbx9 : bh + 1 ≤ Wx.heap.size := by omega
          obtain ⟨yz0, yz1⟩ := kax.cells2
          have yk0 := khx.cell 0
          simp only [List.getElem?_toArray, List.getElem?_cons_zero] at yk0
          have KX := hide khx
          clear kax khx
          go_wp2_with (at_builtin; refine wpList_append1 Tryd.sliceVec rfl _ _ rfl Wx (bh + 1) _ _ _ ox.1 rfl #[.int .i64 x0, .int .i64 y0] 1 rfl rfl (by simp [Value.oneCell']) (by omega) (by omega) hbx9 ?_; intro v' w9 hown9 hb9; obtain ⟨A9, c9, rfl⟩ := own_slice hown9 (Nat.succ_pos _); have kh9 := KX.out.below hb9 (Nat.lt_succ_self _); have yh9 := kh9.cell 0; have fh9 := kh9.frozen 0; simp only [List.getElem?_toArray, List.getElem?_cons_zero] at yh9)
          go_roundw
          case rel =>
            refine ⟨k + 1, A9, c9, n1 + 1, by omega, by go_num, ?_, kh9.set 0 _, ?_, ?_⟩
            · have := HN1.out; rw [HL.out, List.length_cons]; omega
            · have e : pre ++ (chain (pts.take (k + 1))).reverse = (pre ++ S.reverse) ++ [(x0, y0)] := by rw [HL.out, List.reverse_cons, List.append_assoc]
              rw [e]
              refine ⟨ownsRow_setCell_below ?_ (Nat.lt_succ_self _) _, fun g hg => by rw [setCell_size]; exact (hown9.lt g hg).2⟩
              rw [fl_append]; exact hown9
            · exact (hbelx.trans (hb9.mono (Nat.le_succ _))).setCell (Nat.le_refl _) _
          case measure => simp [intOf] <;> omega
        · obtain ⟨b, a, s, eS⟩ : ∃ b a s, S = b :: a :: s := by
            match S, h1 with
            | [], h1 => simp at h1
            | [_], h1 => simp at h1
            | b :: a :: s, _ => exact ⟨b, a, s, rfl⟩
          obtain ⟨m, rfl⟩ : ∃ m, n1 = m + 2 := ⟨n1 - 2, by rw [eS] at hn1; simp at hn1; omega⟩
          obtain ⟨g2, rfl⟩ : ∃ g, A' = some ⟨g, 0, none⟩ := by
            rcases own_form ow.1 with ⟨_, h0, _⟩ | ⟨g, c', h1, _, _⟩
            · omega
            · injection h1 with e1 _ _; exact ⟨g, e1⟩
          have hol := ow.len
          obtain ⟨q1, q2⟩ := stack_at2 (pre := pre) eS
          rw [show pre.length + S.length - 2 = m by omega] at q1
          rw [show pre.length + S.length - 1 = m + 1 by omega] at q2
          obtain ⟨l1, q1⟩ := List.getElem?_eq_some_iff.1 q1
          obtain ⟨l2, q2⟩ := List.getElem?_eq_some_iff.1 q2
          have hbT : b ∈ pts := HM.out b (by rw [eS]; simp)
          have haT : a ∈ pts := HM.out a (by rw [eS]; simp)
          have hc3 : wr.cell? ⟨g2, m * 2, none⟩ = some (.int .i64 a.1) := by rw [← q1]; exact (ow.1.cellAt (m * 2) (by omega)).trans (fl_at l1).1
          have hc4 : wr.cell? ⟨g2, m * 2 + 1, none⟩ = some (.int .i64 a.2) := by rw [← q1]; exact (ow.1.cellAt (m * 2 + 1) (by omega)).trans (fl_at l1).2
          have hc5 : wr.cell? ⟨g2, (m + 1) * 2, none⟩ = some (.int .i64 b.1) := by rw [← q2]; exact (ow.1.cellAt ((m + 1) * 2) (by omega)).trans (fl_at l2).1
          have hc6 : wr.cell? ⟨g2, (m + 1) * 2 + 1, none⟩ = some (.int .i64 b.2) := by rw [← q2]; exact (ow.1.cellAt ((m + 1) * 2 + 1) (by omega)).trans (fl_at l2).2
          have HT := hide (fun (W : World) => impl_Turn W a.1 a.2 (hwf a haT).1 (hwf a haT).2 b.1 b.2 (hwf b hbT).1 (hwf b hbT).2 x0 y0 f1 f2)
          have HE : Hid (turnI a.1 a.2 b.1 b.2 x0 y0 = tn a b (x0, y0)) := tV_tn (hv a haT) (hv b hbT) hvp
          rw [HE.out] at HT
          clear q1 q2 HE
          obtain ⟨yx0, yx1⟩ := kaw.cells2
          have yk := khw.cell 0
          simp only [List.getElem?_toArray, List.getElem?_cons_zero] at yk
          have hla := kaw.lt
          have hk3 : g2 < wr.heap.size := (ow.1.lt g2 rfl).2
          have hi1 : (0 : Int) ≤ (m : Int) := Int.natCast_nonneg _
          have hi2 : m < m + 2 := by omega
          have hi3 : m + 1 < m + 2 := by omega
          have hm1000 : m ≤ 2000 := by omega
          have hw1 : IntKind.i64.wrap ((m : Int) + 2 - 2) = (m : Int) := by rw [show (m : Int) + 2 - 2 = m by omega]; exact IntWalk.i64_in _ (by omega)
          have hw2 : IntKind.i64.wrap ((m : Int) + 2 - 1) = ((m + 1 : Nat) : Int) := by rw [show (m : Int) + 2 - 1 = ((m + 1 : Nat) : Int) by omega]; exact IntWalk.i64_in _ (by omega)
          have hw0 : IntKind.i64.wrap (m : Int) = (m : Int) := IntWalk.i64_in _ (by omega)
          have hw3 : IntKind.i64.wrap ((m : Int) + 1) = (m : Int) + 1 := IntWalk.i64_in _ (by omega)
          have hi4 : (m : Int) < (m : Int) + 2 := by omega
          have hi5 : (m : Int) + 1 < (m : Int) + 2 := by omega
          have hi6 : 0 ≤ (m : Int) + 1 := by omega
          have hwn : IntKind.i64.wrap ((nh : Int) + 2) = (nh : Int) + 2 := IntWalk.i64_in _ (by omega)
          have hge : ((nh : Int) + 2 ≤ (m : Int) + 2) = True := by rw [eS] at hn1; simp at hn1; simp; omega
          have hge2 : (nh + 2 ≤ m + 2) = True := by rw [eS] at hn1; simp at hn1; simp; omega
          have hge3 : ((nh : Int) ≤ (m : Int)) = True := by rw [eS] at hn1; simp at hn1; simp; omega
          have hge4 : (nh ≤ m) = True := by rw [eS] at hn1; simp at hn1; simp; omega
          generalize hav : a.1 = ax at *
          generalize hav2 : a.2 = ay at *
          generalize hbv : b.1 = bx at *
          generalize hbv2 : b.2 = b_y at *
          generalize htn : tn a b (x0, y0) = tv at *
          have HKA := hide kaw
          have HKH := hide khw
          have HN1 := hide hn1
          have HeS := hide eS
          have HOL := hide hol
          clear kaw khw hn1 eS h1 hol
          go_wp2_with fail
          go_region_held3 (fun w' => w'.cell? ⟨bh, 0, none⟩ = some (.slice (some ⟨g2, 0, none⟩) (m + 2) c') ∧ w'.cell? ⟨wo.heap.size, 0, none⟩ = some (.int .i64 x0) ∧ w'.cell? ⟨wo.heap.size, 1, none⟩ = some (.int .i64 y0) ∧ w'.cell? ⟨g2, m * 2, none⟩ = some (.int .i64 ax) ∧ w'.cell? ⟨g2, m * 2 + 1, none⟩ = some (.int .i64 ay) ∧ w'.cell? ⟨g2, (m + 1) * 2, none⟩ = some (.int .i64 bx) ∧ w'.cell? ⟨g2, (m + 1) * 2 + 1, none⟩ = some (.int .i64 b_y) ∧ Below wr.heap.size wr w')
            (first | exact ⟨yk, yx0, yx1, hc3, hc4, hc5, hc6, (Below.refl _ _).drew⟩ | exact ⟨keep1 hb8 (ad := ⟨bh, 0, none⟩) hkb yk, keep1 hb8 (ad := ⟨wo.heap.size, 0, none⟩) hla yx0, keep1 hb8 (ad := ⟨wo.heap.size, 1, none⟩) hla yx1, keep1 hb8 (ad := ⟨g2, m * 2, none⟩) hk3 hc3, keep1 hb8 (ad := ⟨g2, m * 2 + 1, none⟩) hk3 hc4, keep1 hb8 (ad := ⟨g2, (m + 1) * 2, none⟩) hk3 hc5, keep1 hb8 (ad := ⟨g2, (m + 1) * 2 + 1, none⟩) hk3 hc6, undrew hb8⟩)
            (first | (go_at_call 64; refine (HT.out _).mono ?_; rintro e w1 ⟨rfl, hb8⟩))
          have hbx := undrew hb8
          obtain ⟨Wx, eWx⟩ : ∃ x, x = w1 := ⟨_, rfl⟩
          subst eWx
          have kaw := HKA.out
          have khw := HKH.out
          by_cases hpos : tv ≤ 0
          · have HP2 : Hid (push (a :: s) (x0, y0) = push T0 (x0, y0)) := by
              show _ = _
              rw [← HP.out, HeS.out]
              exact (push_pop (by rw [htn]; exact hpos)).symm
            have ox := (ow.below hbx (by omega)).cut (m := m + 1) (by omega)
            have hlen : m + 1 = pre.length + S.length - 1 := by have := HN1.out; omega
            rw [hlen, stack_cut2 HeS.out, ← hlen] at ox
            have HM2 : Hid (∀ x ∈ a :: s, x ∈ pts) := fun x hx => HM.out x (by rw [HeS.out]; exact List.mem_cons_of_mem _ hx)
            have HL2 : Hid (m + 1 = nh + (a :: s).length) := by show _ = _; have := HN1.out; rw [HeS.out] at this; simp at this ⊢; omega
            have HL3 : (a :: s).length ≤ n := by rw [HeS.out] at hSn; simp at hSn ⊢; omega
            have hi7 : (m : Int) + 1 ≤ (c' : Int) := by omega
            have hi8 : m + 1 ≤ c' := by omega
            have hc63 := hcap.2
            unfold maxLen at hc63
            have kh9 := khw.below hbx khw.lt
            have HKA9 := hide (kaw.below hbx kaw.lt)
            have yh9 := kh9.cell 0
            have fh9 := kh9.frozen 0
            simp only [List.getElem?_toArray, List.getElem?_cons_zero] at yh9
            have KH9 := hide kh9
            clear hlen kaw khw kh9
            go_wp2_with fail
            go_roundw
            case rel => exact ⟨a :: s, m + 1, HL2.out, HP2, HM2, HL3, KH9.out.set 0 _, HKA9.out.setv (show wo.heap.size ≠ bh by omega) 0 _, ⟨ownsRow_setCell_below ox.1 (Nat.lt_succ_self _) _, ox.2⟩, (hbi.trans (hbx.mono (Nat.le_of_lt hkb))).setCell (p := ⟨bh, 0, none⟩) (Nat.le_refl _) _⟩
            case measure =>
              have hz := (KH9.out.set 0 (.slice (some ⟨g2, 0, none⟩) (m + 1) c')).cell 0
              have hz2 := HKH.out.cell 0
              unfold lenIn
              simp at hz hz2
              rw [hz, hz2]
              simp [sliceLen]
          · have HSt : Hid (push S (x0, y0) = (x0, y0) :: S) := push_stop fun b' a' s' e => by
              rw [HeS.out] at e
              simp only [List.cons.injEq] at e
              rw [← e.1, ← e.2.1, htn]; omega
            have HL : Hid (chain (pts.take (k + 1)) = (x0, y0) :: S) := HC.out.trans ((HP.out).symm.trans HSt.out)
            have kax := kaw.below hbx kaw.lt
            have khx := khw.below hbx khw.lt
            have ox := ow.below hbx (by omega)
            have hbelx := hbel0.trans (hbi.trans (hbx.mono (Nat.le_of_lt khw.lt)))
            have hbsx := hbx.size
            have hnS : m + 2 ≤ 2000 := by have := HN1.out; omega
            have hkx := khx.lt
            have hbx9 : bh + 1 ≤ Wx.heap.size := by omega
            obtain ⟨yz0, yz1⟩ := kax.cells2
            have yk0 := khx.cell 0
            simp only [List.getElem?_toArray, List.getElem?_cons_zero] at yk0
            have KX := hide khx
            clear kax khx
            go_wp2_with (at_builtin; refine wpList_append1 Tryd.sliceVec rfl _ _ rfl Wx (bh + 1) _ _ _ ox.1 rfl #[.int .i64 x0, .int .i64 y0] 1 rfl rfl (by simp [Value.oneCell']) (by omega) (by omega) hbx9 ?_; intro v' w9 hown9 hb9; obtain ⟨A9, c9, rfl⟩ := own_slice hown9 (Nat.succ_pos _); have kh9 := KX.out.below hb9 (Nat.lt_succ_self _); have yh9 := kh9.cell 0; have fh9 := kh9.frozen 0; simp only [List.getElem?_toArray, List.getElem?_cons_zero] at yh9)
            go_roundw
            case rel =>
              refine ⟨k + 1, A9, c9, m + 2 + 1, by omega, by go_num, ?_, kh9.set 0 _, ?_, ?_⟩
              · have := HN1.out; rw [HL.out, List.length_cons]; omega
              · have e : pre ++ (chain (pts.take (k + 1))).reverse = (pre ++ S.reverse) ++ [(x0, y0)] := by rw [HL.out, List.reverse_cons, List.append_assoc]
                rw [e]
                refine ⟨ownsRow_setCell_below ?_ (Nat.lt_succ_self _) _, fun g hg => by rw [setCell_size]; exact (hown9.lt g hg).2⟩
                rw [fl_append]; exact hown9
              · exact (hbelx.trans (hb9.mono (Nat.le_succ _))).setCell (Nat.le_refl _) _
            case measure => simp [intOf] <;> omega
    · obtain rfl : k = n := by omega
      have HE : Hid (chain (pts.take k) = chain pts) := by show _ = _; rw [List.take_of_length_le (by omega)]
      rw [HE.out] at oh hn'
      clear hx
      obtain ⟨b, s, eC⟩ : ∃ b s, chain pts = b :: s := by
        cases hc : chain pts with
        | nil => exact absurd hc (chain_ne (by intro h; rw [h] at hn; simp at hn; omega))
        | cons b s => exact ⟨b, s, rfl⟩
      have hcl : (chain pts).length ≤ k := by have := chain_len pts; omega
      have hcl1 : (chain pts).length = s.length + 1 := by rw [eC]; rfl
      obtain ⟨m, hm⟩ : ∃ m, m = nh + s.length := ⟨_, rfl⟩
      obtain rfl : n' = m + 1 := by omega
      have ox := oh.cut (m := m) (by omega)
      have hlen : m = pre.length + (chain pts).length - 1 := by omega
      rw [hlen, stack_cut2 eC, ← hlen] at ox
      have yh9 := kh.cell 0
      have fh9 := kh.frozen 0
      simp only [List.getElem?_toArray, List.getElem?_cons_zero] at yh9
      have hcap := oh.cap
      have hi7 : (m : Int) ≤ (c' : Int) := by omega
      have hi8 : m ≤ c' := by omega
      have hc63 := hcap.2
      unfold maxLen at hc63
      have hm2 : m ≤ 2000 := by omega
      have HQ := hide (And.intro hm (And.intro hlen eC))
      clear hlen hm hn' hcl1 eC
      go_wp2_with fail
      refine bodyPost_end (results_none rfl _ _ _) rfl ?_
      refine ⟨rfl, A', m, c', ?_, kh.set 0 _, ?_, hbel.setCell (Nat.le_refl _) _⟩
      · obtain ⟨q1, q2, q3⟩ := HQ.out
        rw [q3]; simp; omega
      · obtain ⟨q1, q2, q3⟩ := HQ.out
        rw [q3]
        exact ⟨ownsRow_setCell_below ox.1 (Nat.lt_succ_self _) _, fun g hg => by rw [setCell_size]; exact ox.2 g hg⟩
end Go.Proofs.YtocllmaikngoaaaDoor
