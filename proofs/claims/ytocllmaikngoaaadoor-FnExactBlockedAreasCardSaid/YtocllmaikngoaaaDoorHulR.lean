/-
  The reference's hulls: contracts: l06Chain.
-/
import Derived.Test.YtocllmaikngoaaaDoorHM
import Derived.Test.YtocllmaikngoaaaDoorPtR
import Derived.Test.YtocllmaikngoaaaDoorEqV
import Derived.Deep.RegionHeld3
import Derived.Sort.AtCall
import Derived.BigQuiet
namespace Go.Proofs.YtocllmaikngoaaaDoor
open Go.RowKit
set_option linter.unusedVariables false
/-- a stack lies in memory with its last corner last -/
theorem stack_at {T : List V2} {b a : V2} {s : List V2} (e : T = b :: a :: s) : (T.reverse)[T.length - 2]? = some a ∧ (T.reverse)[T.length - 1]? = some b := by
  subst e
  have h1 : (b :: a :: s).reverse = s.reverse ++ [a, b] := by simp
  rw [h1]
  have l : s.reverse.length = s.length := by simp
  constructor
  · rw [List.getElem?_append_right (by simp)]
    simp
  · rw [List.getElem?_append_right (by simp)]
    have : (b :: a :: s).length - 1 - s.reverse.length = 1 := by simp
    rw [this]; rfl
theorem stack_cut {T : List V2} {b : V2} {s : List V2} (e : T = b :: s) : (T.reverse).take (T.length - 1) = s.reverse := by
  subst e
  rw [List.reverse_cons, List.take_left' (by simp)]
def sliceLen : Value → Nat
  | .slice _ n _ => n
  | _ => 0
set_option maxRecDepth 100000 in
set_option maxHeartbeats 1600000 in
theorem spec_Chain (w : World) (B : Nat) (hB : B ≤ w.heap.size) (A : Option Addr) (n c : Nat) (l : List V2) (R : RdV w B A n l) (hv : ∀ x ∈ l, vecV x = true) :
    Calls Tryd.prog 74 #[.slice A n c] w fun e w' => ∃ v, e = .returned v ∧ OwnV w' w.heap.size w'.heap.size 31 v (chain l).length (chain l).reverse ∧ Below w.heap.size w w' := by
  obtain ⟨hn, hx, hl, hwf⟩ := R
  have ho0 : (w.alloc (.cells #[] 31)).ownsRow w.heap.size 31 2 (.slice (some ⟨w.heap.size, 0, none⟩) 0 0) 0 [] := World.ownsRow_made w #[] 0 (Nat.le_refl _) (by unfold maxLen; omega) rfl
  go_enter Tryd.func74, Tryd.ntmps74
  go_wp2_with fail
  go_loopw [3, 9] (fun v i wr => ∃ k : Nat, k ≤ n ∧ i = .int .i64 k ∧ OwnV wr w.heap.size wr.heap.size 31 v (chain (l.take k)).length (chain (l.take k)).reverse ∧ Below w.heap.size w wr) (fun _ i _ => n - (intOf i).toNat)
  case atStart => exact ⟨0, Nat.zero_le _, rfl, OwnV.of (by simpa [fl, chain] using ho0), below_new _ _⟩
  case round =>
    clear ho0
    obtain ⟨k, hk, rfl, o, hbel⟩ := hrel
    by_cases hlt : k < n
    · obtain ⟨ad, hA, hb1, hc1, hc2⟩ := (hx.below (hbel.mono hB)).vec (k := k) (by omega)
      have hkl : k < l.length := by omega
      obtain ⟨f1, f2⟩ := wfV_at hwf hkl
      have hvp := hv _ (List.getElem_mem hkl)
      have HC := hide (chain_take_succ hkl)
      have hT0m : ∀ x ∈ chain (l.take k), x ∈ l := fun x hx => List.mem_of_mem_take (chain_mem _ x hx)
      have hT0l : (chain (l.take k)).length ≤ n := by have := chain_len (l.take k); simp at this; omega
      generalize chain (l.take k) = T0 at *
      generalize l[k] = u at *
      obtain ⟨x0, y0⟩ := u
      simp only at hc1 hc2 f1 f2
      obtain ⟨W0, hW0⟩ : ∃ W0, W0 = wr.alloc (.cells #[.int .i64 x0, .int .i64 y0] 31) := ⟨_, rfl⟩
      have ka : Box W0 wr.heap.size 31 #[.int .i64 x0, .int .i64 y0] := by rw [hW0]; exact Box.last _ _ _ rfl
      have hT : Below wr.heap.size wr W0 := by rw [hW0]; exact below_new _ _
      have o0 : OwnV W0 w.heap.size wr.heap.size 31 _ T0.length T0.reverse := o.below hT (Nat.le_refl _)
      have hbel0 := hbel.trans (hT.mono hbel.size)
      obtain ⟨wo, ewo⟩ : ∃ x, x = wr := ⟨_, rfl⟩
      subst ewo
      have hs0 : W0.heap.size = wo.heap.size + 1 := by rw [hW0, alloc_size]
      have hws := hbel.size
      subst hA
      obtain ⟨A0, c0, rfl⟩ := o0.form
      go_upto_region 5 with fail
      rw [← hW0]
      clear hW0 hc1 hc2 hT o
      go_loopw [3] (fun v wi => ∃ (T : List V2) (n1 : Nat), n1 = T.length ∧ v = .slice A0 n1 c0 ∧ n1 ≤ n ∧ Hid (push T (x0, y0) = push T0 (x0, y0)) ∧ Hid (∀ x ∈ T, x ∈ l) ∧ OwnV wi w.heap.size wo.heap.size 31 (.slice A0 n1 c0) n1 T.reverse ∧ Below W0.heap.size W0 wi) (fun v _ => sliceLen v)
      case atStart => exact ⟨T0, _, rfl, rfl, hT0l, rfl, hT0m, o0, Below.refl _ _⟩
      case round =>
        clear o0
        obtain ⟨T, n1, hn1, rfl, hn1n, HP, HM, o, hbi⟩ := hrel
        have hbis := hbi.size
        have kaw := ka.below hbi ka.lt
        by_cases h1 : n1 ≤ 1
        · have HSt : Hid (push T (x0, y0) = (x0, y0) :: T) := push_stop fun b a s e => by rw [e] at hn1; simp at hn1; omega
          have HN1 := hide hn1
          clear hn1
          obtain rfl | rfl : n1 = 0 ∨ n1 = 1 := by omega
          · go_wp2_with fail
            go_quiet (fail)
            have hbx : Below wr.heap.size wr (wr.drewN nq) := below_dN (Below.refl _ _) nq
            generalize wr.drewN nq = Wx at hbx ⊢
            have HL : Hid (chain (l.take (k + 1)) = (x0, y0) :: T) := HC.out.trans ((HP.out).symm.trans HSt.out)
            have kax := (kaw).below hbx (kaw).lt
            have ox := o.below hbx (by omega)
            have hbelx := hbel0.trans ((hbi.trans (hbx.mono hbis)).mono hbel0.size)
            have hbsx := hbelx.size
            obtain ⟨yz0, yz1⟩ := kax.cells2
            clear kax
            go_wp2_with (at_builtin; refine wpList_append1 Tryd.sliceVec rfl _ _ rfl Wx w.heap.size _ _ _ ox.1 rfl #[.int .i64 x0, .int .i64 y0] 1 rfl rfl (by simp [Value.oneCell']) (by omega) (by omega) (by omega) ?_; intro v' w9 hown9 hb9)
            go_roundw
            case rel => exact ⟨k + 1, by omega, by go_num, ⟨by rw [HL.out, List.reverse_cons, fl_append, List.length_cons, ← HN1.out]; exact hown9, fun g hg => (hown9.lt g hg).2⟩, hbelx.trans hb9⟩
            case measure => simp [intOf]; omega
          · go_wp2_with fail
            go_quiet (fail)
            have hbx : Below wr.heap.size wr (wr.drewN nq) := below_dN (Below.refl _ _) nq
            generalize wr.drewN nq = Wx at hbx ⊢
            have HL : Hid (chain (l.take (k + 1)) = (x0, y0) :: T) := HC.out.trans ((HP.out).symm.trans HSt.out)
            have kax := (kaw).below hbx (kaw).lt
            have ox := o.below hbx (by omega)
            have hbelx := hbel0.trans ((hbi.trans (hbx.mono hbis)).mono hbel0.size)
            have hbsx := hbelx.size
            obtain ⟨yz0, yz1⟩ := kax.cells2
            clear kax
            go_wp2_with (at_builtin; refine wpList_append1 Tryd.sliceVec rfl _ _ rfl Wx w.heap.size _ _ _ ox.1 rfl #[.int .i64 x0, .int .i64 y0] 1 rfl rfl (by simp [Value.oneCell']) (by omega) (by omega) (by omega) ?_; intro v' w9 hown9 hb9)
            go_roundw
            case rel => exact ⟨k + 1, by omega, by go_num, ⟨by rw [HL.out, List.reverse_cons, fl_append, List.length_cons, ← HN1.out]; exact hown9, fun g hg => (hown9.lt g hg).2⟩, hbelx.trans hb9⟩
            case measure => simp [intOf]; omega
        · obtain ⟨b, a, s, eT⟩ : ∃ b a s, T = b :: a :: s := by
            match T, hn1 with
            | [], e => simp at e; omega
            | [_], e => simp at e; omega
            | b :: a :: s, _ => exact ⟨b, a, s, rfl⟩
          obtain ⟨m, rfl⟩ : ∃ m, n1 = m + 2 := ⟨n1 - 2, by omega⟩
          obtain ⟨q1, q2⟩ := stack_at eT
          rw [← hn1] at q1 q2
          obtain ⟨l1, q1⟩ := List.getElem?_eq_some_iff.1 q1
          obtain ⟨l2, q2⟩ := List.getElem?_eq_some_iff.1 q2
          have hbT : b ∈ l := HM.out b (by rw [eT]; simp)
          have haT : a ∈ l := HM.out a (by rw [eT]; simp)
          obtain ⟨a0, hA0, hb3, hc3, hc4⟩ := (o.rdB (Nat.le_refl _)).vec (k := m) (by simpa using l1)
          obtain ⟨a1, hA1, hb5, hc5, hc6⟩ := (o.rdB (Nat.le_refl _)).vec (k := m + 1) (by simpa using l2)
          rw [hA0] at hA1
          cases hA1
          have q1' : T.reverse[m]'(by simpa using l1) = a := q1
          have q2' : T.reverse[m + 1]'(by simpa using l2) = b := q2
          rw [q1'] at hc3 hc4
          rw [q2'] at hc5 hc6
          have HT := hide (fun (W : World) => spec_Turn W a.1 a.2 (hwf a haT).1 (hwf a haT).2 b.1 b.2 (hwf b hbT).1 (hwf b hbT).2 x0 y0 f1 f2)
          have HE : Hid (turnI a.1 a.2 b.1 b.2 x0 y0 = tn a b (x0, y0)) := tV_tn (hv a haT) (hv b hbT) hvp
          subst hA0
          rw [HE.out] at HT
          clear q1 q2 q1' q2' l1 l2 HE
          obtain ⟨yx0, yx1⟩ := kaw.cells2
          have hla := kaw.lt
          have hk3 : (a0.add (m * 2)).block < wr.heap.size := by rw [add_block]; omega
          have hk5 : (a0.add ((m + 1) * 2)).block < wr.heap.size := by rw [add_block]; omega
          have hi1 : (0 : Int) ≤ (m : Int) := Int.natCast_nonneg _
          have hi2 : m < m + 2 := by omega
          have hi3 : m + 1 < m + 2 := by omega
          have hw1 : IntKind.i64.wrap ((m : Int) + 2 - 2) = (m : Int) := by rw [show (m : Int) + 2 - 2 = m by omega]; exact IntWalk.i64_in _ (by omega)
          have hw2 : IntKind.i64.wrap ((m : Int) + 2 - 1) = ((m + 1 : Nat) : Int) := by rw [show (m : Int) + 2 - 1 = ((m + 1 : Nat) : Int) by omega]; exact IntWalk.i64_in _ (by omega)
          have hw0 : IntKind.i64.wrap (m : Int) = (m : Int) := IntWalk.i64_in _ (by omega)
          have hw3 : IntKind.i64.wrap ((m : Int) + 1) = (m : Int) + 1 := IntWalk.i64_in _ (by omega)
          have hi4 : (m : Int) < (m : Int) + 2 := by omega
          have hi5 : (m : Int) + 1 < (m : Int) + 2 := by omega
          have hi6 : 0 ≤ (m : Int) + 1 := by omega
          generalize hav : a.1 = ax at *
          generalize hav2 : a.2 = ay at *
          generalize hbv : b.1 = bx at *
          generalize hbv2 : b.2 = b_y at *
          generalize htn : tn a b (x0, y0) = tv at *
          have HKA := hide kaw
          have HN1 := hide hn1
          have HeT := hide eT
          have hgt : (1 : Int) < (m : Int) + 2 := by omega
          have hgt2 : 1 < m + 2 := by omega
          clear kaw hn1 eT h1
          go_wp2_with fail
          go_region_held3 (fun w' => w'.cell? ⟨wo.heap.size, 0, none⟩ = some (.int .i64 x0) ∧ w'.cell? ⟨wo.heap.size, 1, none⟩ = some (.int .i64 y0) ∧ w'.cell? (a0.add (m * 2)) = some (.int .i64 ax) ∧ w'.cell? ⟨(a0.add (m * 2)).block, (a0.add (m * 2)).off + 1, none⟩ = some (.int .i64 ay) ∧ w'.cell? (a0.add ((m + 1) * 2)) = some (.int .i64 bx) ∧ w'.cell? ⟨(a0.add ((m + 1) * 2)).block, (a0.add ((m + 1) * 2)).off + 1, none⟩ = some (.int .i64 b_y) ∧ Below wr.heap.size wr w')
            (first | exact ⟨yx0, yx1, hc3, hc4, hc5, hc6, (Below.refl _ _).drew⟩ | exact ⟨(hb8.cell hla).trans yx0, (hb8.cell (p := ⟨_, _, none⟩) hla).trans yx1, keep1 hb8 hk3 hc3, keep2 hb8 hk3 hc4, keep1 hb8 hk5 hc5, keep2 hb8 hk5 hc6, undrew hb8⟩)
            (first | (go_at_call 63; refine (HT.out _).mono ?_; rintro e w1 ⟨rfl, hb8⟩))
          have hbx := undrew hb8
          obtain ⟨Wx, eWx⟩ : ∃ x, x = w1 := ⟨_, rfl⟩
          subst eWx
          by_cases hpos : tv ≤ 0
          · have HP2 : Hid (push (a :: s) (x0, y0) = push T0 (x0, y0)) := by
              show _ = _
              rw [← HP.out, HeT.out]
              exact (push_pop (by rw [htn]; exact hpos)).symm
            have hcap := o.cap
            have ox := (o.below hbx (by omega)).cut (m := m + 1) (by omega)
            have hlen : m + 1 = T.length - 1 := by have := HN1.out; omega
            rw [hlen, stack_cut HeT.out, ← hlen] at ox
            have HM2 : Hid (∀ x ∈ a :: s, x ∈ l) := fun x hx => HM.out x (by rw [HeT.out]; exact List.mem_cons_of_mem _ hx)
            have HL2 : Hid (m + 1 = (a :: s).length) := by show _ = _; have := HN1.out; rw [HeT.out] at this; simp at this ⊢; omega
            have hi7 : (m : Int) + 1 ≤ (c0 : Int) := by omega
            have hi8 : m + 1 ≤ c0 := by omega
            have hc63 := hcap.2
            unfold maxLen at hc63
            clear hlen
            go_wp2_with fail
            go_roundw
            case rel => exact ⟨a :: s, m + 1, HL2.out, by go_num, by omega, HP2, HM2, ox, hbi.trans (hbx.mono hbis)⟩
            case measure => simp [sliceLen]
          · have HSt : Hid (push T (x0, y0) = (x0, y0) :: T) := push_stop fun b' a' s' e => by
              rw [HeT.out] at e
              simp only [List.cons.injEq] at e
              rw [← e.1, ← e.2.1, htn]; omega
            have HL : Hid (chain (l.take (k + 1)) = (x0, y0) :: T) := HC.out.trans ((HP.out).symm.trans HSt.out)
            have kax := (HKA.out).below hbx (HKA.out).lt
            have ox := o.below hbx (by omega)
            have hbelx := hbel0.trans ((hbi.trans (hbx.mono hbis)).mono hbel0.size)
            have hbsx := hbelx.size
            obtain ⟨yz0, yz1⟩ := kax.cells2
            clear kax
            go_wp2_with (at_builtin; refine wpList_append1 Tryd.sliceVec rfl _ _ rfl Wx w.heap.size _ _ _ ox.1 rfl #[.int .i64 x0, .int .i64 y0] 1 rfl rfl (by simp [Value.oneCell']) (by omega) (by omega) (by omega) ?_; intro v' w9 hown9 hb9)
            go_roundw
            case rel => exact ⟨k + 1, by omega, by go_num, ⟨by rw [HL.out, List.reverse_cons, fl_append, List.length_cons, ← HN1.out]; exact hown9, fun g hg => (hown9.lt g hg).2⟩, hbelx.trans hb9⟩
            case measure => simp [intOf]; omega
    · obtain rfl : k = n := by omega
      have HE : Hid (chain (l.take k) = chain l) := by show _ = _; rw [List.take_of_length_le (by omega)]
      rw [HE.out] at o
      clear hx
      obtain ⟨A0, c0, rfl⟩ := o.form
      go_wp2_with fail
      go_ret
      exact ⟨_, rfl, o, hbel⟩
end Go.Proofs.YtocllmaikngoaaaDoor
