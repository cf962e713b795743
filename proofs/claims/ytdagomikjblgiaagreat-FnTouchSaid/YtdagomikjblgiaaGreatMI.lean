/-
  The texts MinI, MinI2, put together; each has its own heading below. No condition of ours.
-/
import Derived.Test.YtdagomikjblgiaaGreatSP
import Derived.Test.YtdagomikjblgiaaGreatPolI
import Derived.Test.YtdagomikjblgiaaGreatLB
/-
  The program's sums of polygons: contracts: arePolygons, areRightOf, SeparatingEdge, Touches.
-/



namespace Go.Proofs.YtdagomikjblgiaaGreat
open Go.RowKit
set_option linter.unusedVariables false
theorem impl_arePolygons (w : World) (B : Nat) (hB : B ≤ w.heap.size) (A : Option Addr) (n c : Nat) (l : List V2) (R : RdV w B A n l) (D : Option Addr) (m d : Nat) (k : List V2) (S : RdV w B D m k) :
    Calls Tryz.prog 26 #[.slice A n c, .slice D m d] w fun e w' => e = .returned (.bool (polyB l && polyB k)) ∧ Below w.heap.size w w' := by
  have H1 := hide (impl_IsPolygon w B hB A n c l R)
  have H2 := hide (fun (W : World) (h : Below w.heap.size w W) => impl_IsPolygon W B (Nat.le_trans hB h.size) D m d k (S.below (h.mono hB)))
  cases e1 : polyB l with
  | false =>
    rw [e1] at H1
    go_enter Tryz.func26, Tryz.ntmps26
    go_wp2_with fail
    refine H1.out.mono ?_
    rintro e w1 ⟨rfl, hb1⟩
    go_wp2_with fail
    go_ret
    exact ⟨rfl, hb1⟩
  | true =>
    rw [e1] at H1
    go_enter Tryz.func26, Tryz.ntmps26
    go_wp2_with fail
    refine H1.out.mono ?_
    rintro e w1 ⟨rfl, hb1⟩
    go_wp2_with fail
    refine (H2.out _ hb1).mono ?_
    rintro e w2 ⟨rfl, hb2⟩
    go_wp2_with fail
    go_ret
    exact ⟨rfl, below_then hb1 hb2⟩
set_option maxHeartbeats 1600000 in
theorem impl_rightOf1 (w : World) (ga gb : Nat) (ax ay bx b_y px py : Int) (f1 : (Lit.int .i64 ax).wf = true) (f2 : (Lit.int .i64 ay).wf = true) (f3 : (Lit.int .i64 bx).wf = true) (f4 : (Lit.int .i64 b_y).wf = true) (f5 : (Lit.int .i64 px).wf = true) (f6 : (Lit.int .i64 py).wf = true)
    (ka : Box w ga 26 #[.int .i64 ax, .int .i64 ay]) (kb : Box w gb 26 #[.int .i64 bx, .int .i64 b_y]) :
    Calls Tryz.prog 48 #[.agg #[.int .i64 px, .int .i64 py], .pointer (some ⟨ga, 0, none⟩), .pointer (some ⟨gb, 0, none⟩)] w fun e w' => e = .returned (.bool (decide (0 ≤ turnI ax ay bx b_y px py))) ∧ Below w.heap.size w w' := by
  have HT := hide (fun (W : World) => impl_Turn W ax ay f1 f2 bx b_y f3 f4 px py f5 f6)
  generalize turnI ax ay bx b_y px py = T at *
  obtain ⟨W0, hW0⟩ : ∃ W0, W0 = w.alloc (.cells #[.int .i64 px, .int .i64 py] 26) := ⟨_, rfl⟩
  have hT0 : Below w.heap.size w W0 := by rw [hW0]; exact below_new _ _
  have ka0 : Box W0 ga 26 #[.int .i64 ax, .int .i64 ay] := by rw [hW0]; exact ka.alloc _
  have kb0 : Box W0 gb 26 #[.int .i64 bx, .int .i64 b_y] := by rw [hW0]; exact kb.alloc _
  have kp0 : Box W0 w.heap.size 26 #[.int .i64 px, .int .i64 py] := by rw [hW0]; exact Box.last _ _ _ rfl
  clear ka kb f1 f2 f3 f4 f5 f6
  go_enter Tryz.func48, Tryz.ntmps48
  go_upto_region 1 with fail
  rw [← hW0]
  clear hW0
  obtain ⟨a0, a1⟩ := ka0.cells2
  obtain ⟨b0, b1⟩ := kb0.cells2
  obtain ⟨p0, p1⟩ := kp0.cells2
  clear ka0 kb0 kp0
  go_wp2_with fail
  refine (HT.out _).mono ?_
  rintro e w1 ⟨rfl, hb1⟩
  clear HT a0 a1 b0 b1 p0 p1
  by_cases hp : 0 ≤ T
  · go_wp2_with fail
    go_ret
    exact ⟨ret_bool (by simpa using hp), below_then hT0 hb1⟩
  · go_wp2_with fail
    go_ret
    exact ⟨rfl, below_then hT0 hb1⟩
/-- all of l are right of the line from a to b -/
def rightB (a b : V2) (l : List V2) : Bool := l.all fun q => decide (tV a b q < 0)
theorem rightB_no {a b : V2} {l : List V2} {k : Nat} (hk : k < l.length) (h : 0 ≤ tV a b l[k]) : rightB a b l = false := by
  cases e : rightB a b l with
  | false => rfl
  | true =>
    have := List.all_eq_true.1 e _ (List.getElem_mem hk)
    simp at this; omega
theorem rightB_yes {a b : V2} {l : List V2} (h : ∀ k (hk : k < l.length), tV a b l[k] < 0) : rightB a b l = true := List.all_eq_true.2 fun q hq => by
  obtain ⟨k, hk, rfl⟩ := List.getElem_of_mem hq
  simpa using h k hk
/-- the index that IndexFunc answers -/
def IxOf (a b : V2) (l : List V2) (w : World) (e : Ending) (w' : World) : Prop := ∃ z : Int, e = .returned (.int .i64 z) ∧ decide (0 ≤ z) = !(rightB a b l) ∧ Below w.heap.size w w'
set_option maxRecDepth 100000 in
set_option maxHeartbeats 1600000 in
theorem impl_indexRight (w : World) (B : Nat) (hB : B ≤ w.heap.size) (ga gb : Nat) (a b : V2) (fa : (Lit.int .i64 a.1).wf = true ∧ (Lit.int .i64 a.2).wf = true) (fb : (Lit.int .i64 b.1).wf = true ∧ (Lit.int .i64 b.2).wf = true)
    (ka : Box w ga 26 #[.int .i64 a.1, .int .i64 a.2]) (kb : Box w gb 26 #[.int .i64 b.1, .int .i64 b.2]) (A : Option Addr) (n c : Nat) (l : List V2) (R : RdV w B A n l) :
    Calls Tryz.prog 75 #[.slice A n c, .func (.func 48) #[] #[.pointer (some ⟨ga, 0, none⟩), .pointer (some ⟨gb, 0, none⟩)]] w (IxOf a b l w) := by
  obtain ⟨hn, hx, hl, hwf⟩ := R
  have HK := hide (And.intro ka kb)
  have hga := ka.lt
  have hgb := kb.lt
  clear ka kb
  go_enter Tryz.func75, Tryz.ntmps75
  go_wp2_with fail
  go_loopw [8] (fun i wr => ∃ k : Nat, k ≤ n ∧ i = .int .i64 k ∧ Hid (∀ j (h : j < l.length), j < k → tV a b l[j] < 0) ∧ Below w.heap.size w wr) (fun i _ => n - (intOf i).toNat)
  case atStart => exact ⟨0, Nat.zero_le _, rfl, fun j _ h => absurd h (Nat.not_lt_zero _), Below.refl _ _⟩
  case round =>
    obtain ⟨k, hk, rfl, H, hbel⟩ := hrel
    by_cases hlt : k < n
    · obtain ⟨ad, hA, hb1, hc1, hc2⟩ := (hx.below (hbel.mono hB)).vec (k := k) (by omega)
      have hkl : k < l.length := by omega
      obtain ⟨f1, f2⟩ := wfV_at hwf hkl
      have HV := hide (impl_rightOf1 wr ga gb a.1 a.2 b.1 b.2 l[k].1 l[k].2 fa.1 fa.2 fb.1 fb.2 f1 f2 (HK.out.1.below hbel hga) (HK.out.2.below hbel hgb))
      have HE : Hid (turnI a.1 a.2 b.1 b.2 l[k].1 l[k].2 = tV a b l[k]) := rfl
      have hbs := hbel.size
      have HN0 := hide (fun (h : 0 ≤ tV a b l[k]) => rightB_no hkl h)
      have HN1 : Hid (tV a b l[k] < 0 → ∀ j (h : j < l.length), j < k + 1 → tV a b l[j] < 0) := fun h0 j h hj => by
        by_cases e : j = k
        · subst e; exact h0
        · exact H.out j h (by omega)
      rw [HE.out] at HV
      generalize tV a b l[k] = T at *
      generalize l[k].1 = x0 at *
      generalize l[k].2 = y0 at *
      clear H HE f1 f2
      subst hA
      go_wp2_with fail
      refine HV.out.mono ?_
      rintro e w1 ⟨rfl, hb1⟩
      clear HV hc1 hc2
      have hbel2 := hbel.trans (hb1.mono hbs)
      by_cases hp : 0 ≤ T
      · have hg : decide (0 ≤ T) = true := by simpa using hp
        rw [hg]
        have HN := hide (HN0.out hp)
        clear HN0 HN1 hg
        go_wp2_with fail
        go_ret
        exact ⟨(k : Int), rfl, by rw [HN.out]; simp, hbel2⟩
      · have hg : decide (0 ≤ T) = false := by simpa using hp
        rw [hg]
        have HN := hide (HN1.out (by omega))
        clear HN0 HN1 hg
        go_wp2_with fail
        go_roundw
        case rel => exact ⟨k + 1, by omega, by go_num, HN, hbel2⟩
        case measure => simp [intOf]; omega
    · obtain rfl : k = n := by omega
      have HN := hide (rightB_yes (a := a) (b := b) (l := l) fun j hj => H.out j hj (by omega))
      clear hx H
      go_wp2_with fail
      go_ret
      exact ⟨-1, rfl, by rw [HN.out]; rfl, hbel⟩
theorem impl_containsRight (w : World) (B : Nat) (hB : B ≤ w.heap.size) (ga gb : Nat) (a b : V2) (fa : (Lit.int .i64 a.1).wf = true ∧ (Lit.int .i64 a.2).wf = true) (fb : (Lit.int .i64 b.1).wf = true ∧ (Lit.int .i64 b.2).wf = true)
    (ka : Box w ga 26 #[.int .i64 a.1, .int .i64 a.2]) (kb : Box w gb 26 #[.int .i64 b.1, .int .i64 b.2]) (A : Option Addr) (n c : Nat) (l : List V2) (R : RdV w B A n l) :
    Calls Tryz.prog 47 #[.slice A n c, .func (.func 48) #[] #[.pointer (some ⟨ga, 0, none⟩), .pointer (some ⟨gb, 0, none⟩)]] w fun e w' => e = .returned (.bool (!(rightB a b l))) ∧ Below w.heap.size w w' := by
  have H := hide (impl_indexRight w B hB ga gb a b fa fb ka kb A n c l R)
  clear ka kb R
  go_enter Tryz.func47, Tryz.ntmps47
  go_wp2_with fail
  refine H.out.mono ?_
  rintro e w1 ⟨z, rfl, hz, hb1⟩
  have hz := hide hz
  clear H
  by_cases hp : 0 ≤ z
  · have HG : Hid (true = !(rightB a b l)) := by rw [← hz.out]; show _ = _; simpa using hp
    go_wp2_with fail
    go_ret
    exact ⟨ret_bool HG.out, hb1⟩
  · have HG : Hid (false = !(rightB a b l)) := by rw [← hz.out]; show _ = _; simpa using hp
    go_wp2_with fail
    go_ret
    exact ⟨ret_bool (by rw [← hz.out]), hb1⟩
theorem impl_areRightOf (w : World) (B : Nat) (hB : B ≤ w.heap.size) (ax ay bx b_y : Int) (f1 : (Lit.int .i64 ax).wf = true) (f2 : (Lit.int .i64 ay).wf = true) (f3 : (Lit.int .i64 bx).wf = true) (f4 : (Lit.int .i64 b_y).wf = true) (A : Option Addr) (n c : Nat) (l : List V2) (R : RdV w B A n l) :
    Calls Tryz.prog 27 #[.agg #[.int .i64 ax, .int .i64 ay], .agg #[.int .i64 bx, .int .i64 b_y], .slice A n c] w fun e w' => e = .returned (.bool (rightB (ax, ay) (bx, b_y) l)) ∧ Below w.heap.size w w' := by
  obtain ⟨W0, hW0⟩ : ∃ W0, W0 = (w.alloc (.cells #[.int .i64 ax, .int .i64 ay] 26)).alloc (.cells #[.int .i64 bx, .int .i64 b_y] 26) := ⟨_, rfl⟩
  have hT0 : Below w.heap.size w W0 := by rw [hW0]; exact below_alloc (below_new _ _) _
  have ka : Box W0 w.heap.size 26 #[.int .i64 ax, .int .i64 ay] := by rw [hW0]; exact (Box.last _ _ _ rfl).alloc _
  have kb : Box W0 (w.heap.size + 1) 26 #[.int .i64 bx, .int .i64 b_y] := by rw [hW0]; exact Box.last _ _ _ (alloc_size _ _).symm
  have H := hide (impl_containsRight W0 B (Nat.le_trans hB hT0.size) w.heap.size (w.heap.size + 1) (ax, ay) (bx, b_y) ⟨f1, f2⟩ ⟨f3, f4⟩ ka kb A n c l (R.below (hT0.mono hB)))
  clear ka kb R f1 f2 f3 f4
  generalize rightB (ax, ay) (bx, b_y) l = r at *
  go_enter Tryz.func27, Tryz.ntmps27
  go_upto_region 1 with fail
  rw [← hW0]
  clear hW0
  go_wp2_with fail
  refine H.out.mono ?_
  rintro e w1 ⟨rfl, hb1⟩
  go_wp2_with fail
  go_ret
  exact ⟨ret_bool (by simp), below_then hT0 hb1⟩
theorem sepI_right {a b : List V2} {k p : Nat} (hk : k < a.length) (hp : p < a.length) (e : (k + 1) % a.length = p) : sepI a b k = rightB (a[k].1, a[k].2) (a[p].1, a[p].2) b := by
  subst e
  unfold sepI rightB
  rw [atV_eq hk, atV_eq hp]
set_option maxRecDepth 100000 in
set_option maxHeartbeats 1600000 in
theorem impl_SeparatingEdge (w : World) (B : Nat) (hB : B ≤ w.heap.size) (A : Option Addr) (n c : Nat) (l : List V2) (R : RdV w B A n l) (D : Option Addr) (m d : Nat) (t : List V2) (S : RdV w B D m t) :
    Calls Tryz.prog 11 #[.slice A n c, .slice D m d] w fun e w' => e = .returned (.int .i64 (sepL l t)) ∧ Below w.heap.size w w' := by
  have HP := hide (impl_arePolygons w B hB A n c l R D m d t S)
  obtain ⟨hn, hx, hl, hwf⟩ := R
  cases ep : (polyB l && polyB t) with
  | false =>
    have HN : Hid (sepL l t = -1) := by
      show _ = _
      unfold sepL
      rw [if_neg (by intro h; rw [h.1, h.2] at ep; cases ep)]
    rw [ep] at HP
    clear hx ep
    go_enter Tryz.func11, Tryz.ntmps11
    go_wp2_with fail
    refine HP.out.mono ?_
    rintro e w1 ⟨rfl, hb1⟩
    go_wp2_with fail
    go_ret
    exact ⟨ret_int HN.out.symm, hb1⟩
  | true =>
    have hep : polyB l = true ∧ polyB t = true := by simpa using ep
    have HQ : Hid (sepL l t = sepK l t) := sepL_is hep.1 hep.2
    have h3 := (polyB_iff.1 hep.1).1
    have h16 := (polyB_iff.1 hep.1).2.1
    rw [ep] at HP
    clear ep hep
    go_enter Tryz.func11, Tryz.ntmps11
    go_wp2_with fail
    refine HP.out.mono ?_
    rintro e w1 ⟨rfl, hb1⟩
    clear HP
    go_wp2_with fail
    go_loopw [13] (fun i wr => ∃ k : Nat, k ≤ n ∧ i = .int .i64 k ∧ Hid (∀ i, i < k → sepI l t i = false) ∧ Below w.heap.size w wr) (fun i _ => n - (intOf i).toNat)
    case atStart => exact ⟨0, Nat.zero_le _, rfl, fun i h => absurd h (Nat.not_lt_zero _), hb1⟩
    case round =>
      clear hb1
      obtain ⟨k, hk, rfl, H, hbel⟩ := hrel
      by_cases hlt : k < n
      · obtain ⟨ad, hA, hb1, hc1, hc2⟩ := (hx.below (hbel.mono hB)).vec (k := k) (by omega)
        have hkl : k < l.length := by omega
        obtain ⟨f1, f2⟩ := wfV_at hwf hkl
        have hm : ((k : Int) + 1) % (n : Int) = (((k + 1) % n : Nat) : Int) := by rw [Int.natCast_emod]; rfl
        have hp : (k + 1) % n < n := Nat.mod_lt _ (by omega)
        have hpl : Hid ((k + 1) % l.length = (k + 1) % n) := by show _ = _; rw [hn]
        generalize (k + 1) % n = p at *
        have hpl2 : p < l.length := by omega
        obtain ⟨f3, f4⟩ := wfV_at hwf hpl2
        have HE := hide (sepI_right (b := t) hkl hpl2 hpl.out)
        have HR := hide (fun (W : World) (hb : Below w.heap.size w W) => impl_areRightOf W B (Nat.le_trans hB hb.size) l[k].1 l[k].2 l[p].1 l[p].2 f1 f2 f3 f4 D m d t (S.below (hb.mono hB)))
        generalize rightB (l[k].1, l[k].2) (l[p].1, l[p].2) t = r at *
        generalize l[k].1 = x0 at *
        generalize l[k].2 = y0 at *
        clear f1 f2 f3 f4
        obtain ⟨W0, hW0⟩ : ∃ W0, W0 = wr.alloc (.cells #[.int .i64 x0, .int .i64 y0] 26) := ⟨_, rfl⟩
        have ka : Box W0 wr.heap.size 26 #[.int .i64 x0, .int .i64 y0] := by rw [hW0]; exact Box.last _ _ _ rfl
        have hT : Below wr.heap.size wr W0 := by rw [hW0]; exact below_new _ _
        subst hA
        go_upto_region 6 with fail
        rw [← hW0]
        clear hW0 hc1 hc2
        have hT0 := hbel.trans (hT.mono hbel.size)
        obtain ⟨ad', hA', hb2, hc1, hc2⟩ := (hx.below (hT0.mono hB)).vec (k := p) (by omega)
        cases hA'
        have hx' : (ad.add (p * 2)).block < W0.heap.size := by rw [add_block]; have := hT0.size; omega
        have hl0 := ka.lt
        obtain ⟨ya0, ya1⟩ := ka.cells2
        generalize l[p].1 = x2 at *
        generalize l[p].2 = y2 at *
        have hm0 : ((k : Int) + 1).tmod (n : Int) = (p : Int) := by rw [Int.tmod_eq_emod_of_nonneg (by omega)]; exact hm
        have hw1 : IntKind.i64.wrap ((k : Int) + 1) = (k : Int) + 1 := IntWalk.i64_in _ (by omega)
        have hw2 : IntKind.i64.wrap (p : Int) = (p : Int) := IntWalk.i64_in _ (by omega)
        have hi1 : 0 ≤ (p : Int) := Int.natCast_nonneg _
        have hi2 : (p : Int) < (n : Int) := by omega
        have hi3 : 0 ≤ (k : Int) + 1 := by omega
        have hi4 : 0 < (n : Int) := by omega
        have hi5 : (n : Int) ≠ 0 := by omega
        have hi6 : p < n := hp
        have hi7 : n ≠ 0 := by omega
        have hi8 : (((n : Int) == 0) = false) := by simpa using hi7
        clear hx S hwf hpl
        go_region_held3 (fun w' => w'.cell? ⟨wr.heap.size, 0, none⟩ = some (.int .i64 x0) ∧ w'.cell? ⟨wr.heap.size, 1, none⟩ = some (.int .i64 y0) ∧ w'.cell? (ad.add (p * 2)) = some (.int .i64 x2) ∧ w'.cell? ⟨(ad.add (p * 2)).block, (ad.add (p * 2)).off + 1, none⟩ = some (.int .i64 y2) ∧ Below W0.heap.size W0 w')
            (first | exact ⟨ya0, ya1, hc1, hc2, (Below.refl _ _).drew⟩ | exact ⟨(hb9.cell hl0).trans ya0, (hb9.cell (p := ⟨_, _, none⟩) hl0).trans ya1, (hb9.cell hx').trans hc1, (hb9.cell (p := ⟨_, _, none⟩) hx').trans hc2, undrew hb9⟩)
            (first | (go_at_call 27; refine (HR.out _ (below_drewN' hT0 _)).mono ?_; rintro e w1 ⟨rfl, hb9⟩))
        have hT1 := hT0.trans ((undrew hb9).mono hT0.size)
        cases r with
        | true =>
          have HN := hide (sepK_at hkl H.out HE.out)
          go_wp2_with fail
          go_ret
          exact ⟨ret_int (by rw [HQ.out, HN.out]), hT1⟩
        | false =>
          have HN : Hid (∀ i, i < k + 1 → sepI l t i = false) := fun i hi => by
            by_cases ei : i = k
            · rw [ei]; exact HE.out
            · exact H.out i (by omega)
          go_wp2_with fail
          go_roundw
          case rel => exact ⟨k + 1, by omega, by go_num, HN, hT1⟩
          case measure => simp [intOf]; omega
      · obtain rfl : k = n := by omega
        have HN := hide (sepK_no (a := l) (b := t) fun i hi => H.out i (by omega))
        clear hx H
        go_wp2_with fail
        go_ret
        exact ⟨ret_int (by rw [HQ.out, HN.out]), hbel⟩
end Go.Proofs.YtdagomikjblgiaaGreat

/-
  The program's sums of polygons: contracts: Touches.
-/

namespace Go.Proofs.YtdagomikjblgiaaGreat
open Go.RowKit
set_option linter.unusedVariables false
theorem impl_Touches (w : World) (B : Nat) (hB : B ≤ w.heap.size) (A : Option Addr) (n c : Nat) (l : List V2) (R : RdV w B A n l) (D : Option Addr) (m d : Nat) (t : List V2) (S : RdV w B D m t) :
    Calls Tryz.prog 10 #[.slice A n c, .slice D m d] w fun e w' => e = .returned (.bool (touB l t)) ∧ Below w.heap.size w w' := by
  have HP := hide (impl_arePolygons w B hB A n c l R D m d t S)
  have HA := hide (fun (W : World) (h : Below w.heap.size w W) => impl_SeparatingEdge W B (Nat.le_trans hB h.size) A n c l (R.below (h.mono hB)) D m d t (S.below (h.mono hB)))
  have HC := hide (fun (W : World) (h : Below w.heap.size w W) => impl_SeparatingEdge W B (Nat.le_trans hB h.size) D m d t (S.below (h.mono hB)) A n c l (R.below (h.mono hB)))
  have HT : Hid (touB l t = ((polyB l && polyB t) && (decide (sepL l t < 0) && decide (sepL t l < 0)))) := by show _ = _; unfold touB; rw [Bool.and_assoc]
  generalize (polyB l && polyB t) = p at *
  generalize touB l t = r at *
  generalize sepL l t = x at *
  generalize sepL t l = y at *
  clear R S
  cases p with
  | false =>
    have HN : Hid (false = r) := by show _ = _; rw [HT.out]; rfl
    go_enter Tryz.func10, Tryz.ntmps10
    go_wp2_with fail
    refine HP.out.mono ?_
    rintro e w1 ⟨rfl, hb1⟩
    go_wp2_with fail
    go_ret
    exact ⟨ret_bool HN.out, hb1⟩
  | true =>
    by_cases hx : x < 0
    case neg =>
      have hx' : decide (x < 0) = false := by simpa using hx
      have HN : Hid (false = r) := by show _ = _; rw [HT.out, hx']; rfl
      go_enter Tryz.func10, Tryz.ntmps10
      go_wp2_with fail
      refine HP.out.mono ?_
      rintro e w1 ⟨rfl, hb1⟩
      go_wp2_with fail
      refine (HA.out _ hb1).mono ?_
      rintro e w2 ⟨rfl, hb2⟩
      go_wp2_with fail
      go_ret
      exact ⟨ret_bool HN.out, below_then hb1 hb2⟩
    have hx' : decide (x < 0) = true := by simpa using hx
    have HN : Hid (decide (y < 0) = r) := by show _ = _; rw [HT.out, hx']; simp
    go_enter Tryz.func10, Tryz.ntmps10
    go_wp2_with fail
    refine HP.out.mono ?_
    rintro e w1 ⟨rfl, hb1⟩
    go_wp2_with fail
    refine (HA.out _ hb1).mono ?_
    rintro e w2 ⟨rfl, hb2⟩
    go_wp2_with fail
    refine (HC.out _ (below_then hb1 hb2)).mono ?_
    rintro e w3 ⟨rfl, hb3⟩
    go_wp2_with fail
    go_ret
    exact ⟨ret_bool HN.out, below_then (below_then hb1 hb2) hb3⟩
end Go.Proofs.YtdagomikjblgiaaGreat
