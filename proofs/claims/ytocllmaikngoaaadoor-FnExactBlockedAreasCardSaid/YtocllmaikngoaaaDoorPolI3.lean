/-
  The program's polygons: contracts: areValidVecs, NegatePolygon.
-/
import Derived.Test.YtocllmaikngoaaaDoorHM
import Derived.Test.YtocllmaikngoaaaDoorPI
import Derived.Test.YtocllmaikngoaaaDoorLB
namespace Go.Proofs.YtocllmaikngoaaaDoor
open Go.RowKit
set_option linter.unusedVariables false
def inV (m : Int) (v : V2) : Bool := inB m v.1 v.2
def allIn (m : Int) (l : List V2) : Bool := l.all (inV m)
theorem allIn_no {m : Int} {l : List V2} {k : Nat} (hk : k < l.length) (h : inV m l[k] = false) : allIn m l = false := by
  cases e : allIn m l with
  | false => rfl
  | true => rw [List.all_eq_true.1 e _ (List.getElem_mem hk)] at h; cases h
set_option maxRecDepth 100000 in
set_option maxHeartbeats 1600000 in
theorem impl_areWithin (w : World) (B : Nat) (hB : B ≤ w.heap.size) (A : Option Addr) (n c : Nat) (l : List V2) (R : RdV w B A n l) (m : Int) (hm : 0 ≤ m ∧ m ≤ 1000000) :
    Calls Tryd.prog 48 #[.slice A n c, .int .i64 m] w fun e w' => e = .returned (.bool (allIn m l)) ∧ Below w.heap.size w w' := by
  obtain ⟨hn, hx, hl, hwf⟩ := R
  go_enter Tryd.func48, Tryd.ntmps48
  go_wp2_with fail
  go_loopw [9] (fun i wr => ∃ k : Nat, k ≤ n ∧ i = .int .i64 k ∧ Hid (∀ j (h : j < l.length), j < k → inV m l[j] = true) ∧ Below w.heap.size w wr) (fun i _ => n - (intOf i).toNat)
  case atStart => exact ⟨0, Nat.zero_le _, rfl, fun j _ h => absurd h (Nat.not_lt_zero _), Below.refl _ _⟩
  case round =>
    obtain ⟨k, hk, rfl, H, hbel⟩ := hrel
    by_cases hlt : k < n
    · obtain ⟨ad, hA, hb1, hc1, hc2⟩ := (hx.below (hbel.mono hB)).vec (k := k) (by omega)
      have hkl : k < l.length := by omega
      obtain ⟨f1, f2⟩ := wfV_at hwf hkl
      have HV := hide (fun (W : World) => impl_isWithin W l[k].1 l[k].2 m f1 f2 hm)
      have hbs := hbel.size
      generalize hv : l[k] = v0 at *
      obtain ⟨x0, y0⟩ := v0
      obtain ⟨W0, hW0⟩ : ∃ W0, W0 = wr.alloc (.cells #[.int .i64 x0, .int .i64 y0] 31) := ⟨_, rfl⟩
      have ka : Box W0 wr.heap.size 31 #[.int .i64 x0, .int .i64 y0] := by rw [hW0]; exact Box.last _ _ _ rfl
      have hT : Below wr.heap.size wr W0 := by rw [hW0]; exact below_new _ _
      subst hA
      go_upto_region 4 with fail
      rw [← hW0]
      clear hW0 hc1 hc2
      obtain ⟨ya0, ya1⟩ := ka.cells2
      go_wp2_with fail
      refine (HV.out _).mono ?_
      rintro e w1 ⟨rfl, hb1⟩
      clear ya0 ya1 HV
      have hT2 := hT.trans (hb1.mono hT.size)
      have hbel2 := hbel.trans (hT2.mono hbs)
      clear hT hT2 hb1
      by_cases ev : inB m x0 y0 = true
      case neg =>
        have ev : inB m x0 y0 = false := by simpa using ev
        have HN : Hid (allIn m l = false) := allIn_no hkl (by rw [hv]; exact ev)
        rw [ev]
        go_wp2_with fail
        go_ret
        exact ⟨ret_bool HN.out.symm, hbel2⟩
      rw [ev]
      have HN : Hid (∀ j (h : j < l.length), j < k + 1 → inV m l[j] = true) := fun j h hj => by
        by_cases e : j = k
        · subst e; rw [hv]; exact ev
        · exact H.out j h (by omega)
      clear H
      go_wp2_with fail
      go_roundw
      case rel => exact ⟨k + 1, by omega, by go_num, HN, hbel2⟩
      case measure => simp [intOf]; omega
    · obtain rfl : k = n := by omega
      have HN : Hid (allIn m l = true) := List.all_eq_true.2 fun v hv => by obtain ⟨j, hj, rfl⟩ := List.getElem_of_mem hv; exact H.out j hj (by omega)
      clear hx H
      go_wp2_with fail
      go_ret
      exact ⟨ret_bool HN.out.symm, hbel⟩
theorem impl_areValidVecs (w : World) (B : Nat) (hB : B ≤ w.heap.size) (A : Option Addr) (n c : Nat) (l : List V2) (R : RdV w B A n l) :
    Calls Tryd.prog 48 #[.slice A n c, .int .i64 1000] w fun e w' => e = .returned (.bool (allV l)) ∧ Below w.heap.size w w' := impl_areWithin w B hB A n c l R 1000 (by omega)
theorem wrap_wf (k : IntKind) (n : Int) : (Lit.int k (k.wrap n)).wf = true := by
  have := wrap_within k n
  simp [Lit.wf, this.1, this.2]
/-- each corner negated; -2^63 stays -/
def ngW (v : V2) : V2 := (IntKind.i64.wrap (-v.1), IntKind.i64.wrap (-v.2))
theorem ngw_cases {x : Int} (h : (Lit.int .i64 x).wf = true) : IntKind.i64.wrap (-x) = -x ∨ (x = -9223372036854775808 ∧ IntKind.i64.wrap (-x) = -9223372036854775808) := by
  obtain ⟨a1, a2⟩ := bounds_i64 h
  by_cases e : x = -9223372036854775808
  · subst e; exact .inr ⟨rfl, by decide⟩
  · exact .inl (IntWalk.i64_in _ (by omega))
theorem ngW_vec {v : V2} (h1 : (Lit.int .i64 v.1).wf = true) (h2 : (Lit.int .i64 v.2).wf = true) : vecV (ngW v) = vecV v ∧ (vecV v = true → ngW v = ng v) := by
  have e : ∀ x : Int, x = -9223372036854775808 → ∀ y, vecB x y = false ∧ vecB y x = false := by
    intro x hx y
    subst hx
    constructor <;> simp [vecB]
  rcases ngw_cases h1 with a | ⟨a, a'⟩
  · rcases ngw_cases h2 with b | ⟨b, b'⟩
    · refine ⟨?_, fun _ => by unfold ngW ng; rw [a, b]⟩
      unfold vecV ngW
      rw [a, b, Bool.eq_iff_iff]
      unfold vecB
      simp
      omega
    · unfold vecV ngW
      rw [b', (e _ rfl _).2, (e _ b _).2]
      exact ⟨rfl, fun h => by cases h⟩
  · unfold vecV ngW
    rw [a', (e _ rfl _).1, (e _ a _).1]
    exact ⟨rfl, fun h => by cases h⟩
theorem ngW_wf (l : List V2) : wfV (l.map ngW) := fun v hv => by
  obtain ⟨u, _, rfl⟩ := List.mem_map.1 hv
  exact ⟨wrap_wf _ _, wrap_wf _ _⟩
theorem allV_ngW : ∀ {l : List V2}, wfV l → allV (l.map ngW) = allV l ∧ (allV l = true → l.map ngW = l.map ng) := by
  intro l
  induction l with
  | nil => intro _; exact ⟨rfl, fun _ => rfl⟩
  | cons v l ih =>
    intro h
    obtain ⟨i1, i2⟩ := ih fun u hu => h u (List.mem_cons_of_mem _ hu)
    obtain ⟨j1, j2⟩ := ngW_vec (h v (by simp)).1 (h v (by simp)).2
    have e1 : allV ((v :: l).map ngW) = (vecV (ngW v) && allV (l.map ngW)) := rfl
    have e2 : allV (v :: l) = (vecV v && allV l) := rfl
    rw [e1, e2, i1, j1]
    refine ⟨rfl, fun hh => ?_⟩
    simp only [Bool.and_eq_true] at hh
    rw [List.map_cons, List.map_cons, i2 hh.2, j2 hh.1]
theorem impl_neg1 (w : World) (x y : Int) (hx : (Lit.int .i64 x).wf = true) (hy : (Lit.int .i64 y).wf = true) :
    Calls Tryd.prog 69 #[.agg #[.int .i64 x, .int .i64 y]] w fun e w' => e = .returned (.agg #[.int .i64 (IntKind.i64.wrap (-x)), .int .i64 (IntKind.i64.wrap (-y))]) ∧ Below w.heap.size w w' := by
  have e : ∀ z : Int, wrap64 z = IntKind.i64.wrap z := fun z => (IntWalk.i64_left z).symm
  go_enter Tryd.func69, Tryd.ntmps69
  go_wp2_with fail
  rw [e, e]
  refine bodyPost_ret (results_cell_row rfl _ _ (w.heap.size + 1) _ #[.int .i64 (IntKind.i64.wrap (-x)), .int .i64 (IntKind.i64.wrap (-y))] (0, 0) _ rfl (show Box _ _ 31 #[.int .i64 (IntKind.i64.wrap (-x)), .int .i64 (IntKind.i64.wrap (-y))] from Box.last _ _ _ (alloc_size _ _).symm) Tryd.underlying31 rfl Tryd.sizeVec) rfl ?_
  · exact ⟨rfl, below_alloc (below_new _ _) _⟩
set_option maxRecDepth 100000 in
set_option maxHeartbeats 1600000 in
theorem impl_changedNeg (w : World) (B : Nat) (hB : B ≤ w.heap.size) (A : Option Addr) (n c : Nat) (l : List V2) (R : RdV w B A n l) :
    Calls Tryd.prog 50 #[.slice A n c, .func (.func 69) #[] #[]] w fun e w' => ∃ v, e = .returned v ∧ OwnV w' w.heap.size w'.heap.size 31 v (negL l).length (negL l) ∧ Below w.heap.size w w' := by
  obtain ⟨hn, hx, hl, hwf⟩ := R
  obtain ⟨w0, hmk, hown0, hb0⟩ := Tryd.make0V w n hl
  go_enter Tryd.func50, Tryd.ntmps50
  go_wp2_with fail
  go_loopw [5, 13] (fun v i wr => ∃ k : Nat, k ≤ n ∧ i = .int .i64 k ∧ wr.ownsRow w.heap.size 31 2 v k (fl ((l.take k).map ngW)) ∧ Below w.heap.size w wr) (fun _ i _ => n - (intOf i).toNat)
  case atStart => exact ⟨0, Nat.zero_le _, rfl, by simpa [fl] using hown0, hb0⟩
  case round =>
    clear hown0 hb0 hmk
    obtain ⟨k, hk, rfl, hown, hbel⟩ := hrel
    by_cases hlt : k < n
    · obtain ⟨ad, hA, hb1, hc1, hc2⟩ := (hx.below (hbel.mono hB)).vec (k := k) (by omega)
      have hkl : k < l.length := by omega
      obtain ⟨f1, f2⟩ := wfV_at hwf hkl
      have HV := hide (fun (W : World) => impl_neg1 W l[k].1 l[k].2 f1 f2)
      have HM := hide (map_take_snoc ngW hkl)
      have hbs := hbel.size
      generalize hv : l[k] = v0 at *
      obtain ⟨x0, y0⟩ := v0
      have HM2 : Hid (ngW l[k] = (IntKind.i64.wrap (-x0), IntKind.i64.wrap (-y0))) := by show _ = _; rw [hv]; rfl
      generalize IntKind.i64.wrap (-x0) = x1 at *
      generalize IntKind.i64.wrap (-y0) = y1 at *
      obtain ⟨W0, hW0⟩ : ∃ W0, W0 = wr.alloc (.cells #[.int .i64 x0, .int .i64 y0] 31) := ⟨_, rfl⟩
      have ka : Box W0 wr.heap.size 31 #[.int .i64 x0, .int .i64 y0] := by rw [hW0]; exact Box.last _ _ _ rfl
      have hT : Below wr.heap.size wr W0 := by rw [hW0]; exact below_new _ _
      subst hA
      go_upto_region 5 with fail
      rw [← hW0]
      clear hW0 hc1 hc2
      obtain ⟨ya0, ya1⟩ := ka.cells2
      go_wp2_with fail
      refine (HV.out _).mono ?_
      rintro e w1 ⟨rfl, hb1⟩
      clear ya0 ya1 HV
      have hT2 := hT.trans (hb1.mono hT.size)
      have hown2 := own_grown hown hT2
      have hbel2 := hbel.trans (hT2.mono hbs)
      have hbs2 := hbel2.size
      clear hown hT hT2 hb1
      go_wp2_with (at_builtin; refine wpList_append1 Tryd.sliceVec rfl _ _ rfl w1 w.heap.size _ _ _ hown2 rfl #[.int .i64 x1, .int .i64 y1] 1 rfl rfl (by simp [Value.oneCell']) (by omega) (by omega) (by omega) ?_; intro v' w2 hown3 hb2)
      go_roundw
      case rel => exact ⟨k + 1, by omega, by go_num, by rw [HM.out, fl_append, ← hv, HM2.out]; exact hown3, hbel2.trans hb2⟩
      case measure => simp [intOf]; omega
    · obtain rfl : k = n := by omega
      have e : (l.take k).map ngW = l.map ngW := by rw [List.take_of_length_le (by omega)]
      rw [e] at hown
      obtain ⟨a1, a2⟩ := allV_ngW hwf
      have o := OwnV.of hown
      have hlen := o.len
      clear e hown hx
      obtain ⟨A1, c1, rfl⟩ := o.form
      have HA := hide (impl_areValidVecs wr wr.heap.size (Nat.le_refl _) A1 k c1 _ (o.rdV hl (ngW_wf l)))
      go_wp2_with fail
      refine HA.out.mono ?_
      rintro e w1 ⟨rfl, hb1⟩
      have o1 := (o.below hb1 (Nat.le_refl _)).wider (Nat.le_refl _) hb1.size
      have hbel2 := hbel.trans (hb1.mono hbel.size)
      clear HA o hb1
      rw [a1]
      by_cases ev : allV l = true
      · rw [ev]
        have HN : Hid (negL l = l.map ngW) := by show _ = _; unfold negL; rw [if_pos ev, a2 ev]
        have hL : Hid ((negL l).length = k) := by show _ = _; rw [HN.out]; exact hlen
        clear a1 a2
        go_wp2_with fail
        go_ret
        exact ⟨_, rfl, by rw [hL.out, HN.out]; exact o1, hbel2⟩
      · have ev : allV l = false := by simpa using ev
        rw [ev]
        have HN : Hid (negL l = []) := by show _ = _; unfold negL; rw [ev]; rfl
        clear a1 a2
        go_wp2_with fail
        go_ret
        exact ⟨_, rfl, by rw [HN.out]; exact OwnV.nil _ _ _ _, hbel2⟩
theorem impl_NegatePolygon (w : World) (B : Nat) (hB : B ≤ w.heap.size) (A : Option Addr) (n c : Nat) (l : List V2) (R : RdV w B A n l) :
    Calls Tryd.prog 59 #[.slice A n c] w fun e w' => ∃ v, e = .returned v ∧ OwnV w' w.heap.size w'.heap.size 31 v (negL l).length (negL l) ∧ Below w.heap.size w w' := by
  have HC := hide (impl_changedNeg w B hB A n c l R)
  go_enter Tryd.func59, Tryd.ntmps59
  go_wp2_with fail
  refine HC.out.mono ?_
  rintro e w1 ⟨v, rfl, o, hb⟩
  go_wp2_with fail
  go_ret
  exact ⟨_, rfl, o, hb⟩
end Go.Proofs.YtocllmaikngoaaaDoor
