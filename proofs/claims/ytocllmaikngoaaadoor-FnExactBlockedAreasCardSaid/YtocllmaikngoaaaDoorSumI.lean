/-
  The program's sums of polygons: contracts: SumPolygons, ObstacleFor.
-/
import Derived.Test.YtocllmaikngoaaaDoorRG
import Derived.Test.YtocllmaikngoaaaDoorMinI
import Derived.Test.YtocllmaikngoaaaDoorHulI2
namespace Go.Proofs.YtocllmaikngoaaaDoor
open Go.RowKit
set_option linter.unusedVariables false
attribute [local go_sem] Oper.semAt_some
theorem impl_cornerSums (w : World) (A : Option Addr) (n c : Nat) (D : Option Addr) (m d : Nat) :
    Calls Tryd.prog 67 #[.slice A n c, .slice D m d] w fun e w' => e = .returned (.func (.func 75) #[] #[.pointer (some ⟨w.heap.size, 0, none⟩), .pointer (some ⟨w.heap.size + 1, 0, none⟩)]) ∧ w' = (w.alloc (.cells #[.slice A n c] 29)).alloc (.cells #[.slice D m d] 29) := by
  go_enter Tryd.func67, Tryd.ntmps67
  go_wp2_with fail
  go_ret
  exact ⟨rfl, rfl⟩
/-- what the variable of the sums holds, pre having come -/
def SumsI (w : World) (Bs : Nat) (E T : TypeId) (n0 : Nat) (pre : List V2) (W : World) : Prop :=
  (∃ v, Boxed W Bs T v ∧ W.ownsRow n0 E 2 v pre.length (fl pre) ∧ (pre.length = 0 → v = .slice none 0 0)) ∧ Below n0 w W
theorem sumsI_own (w : World) (Bs : Nat) (E T : TypeId) (n0 B : Nat) (hB : n0 ≤ w.heap.size) (hBB : w.heap.size ≤ B) : OwnFrom B (SumsI w Bs E T n0) :=
  OwnFrom.and (_root_.Go.Own.from (holdsRow_own n0 Bs T E 2 (fun pre : List V2 => pre.length) (fun pre => fl pre) (fun pre v => pre.length = 0 → v = .slice none 0 0)) B) (ownFrom_below (by omega) (by omega))
theorem sums_stops (n : Nat) (hn : 4 ≤ n) (B1 B2 n0 : Nat) (A : Option Addr) (na ca : Nat) (a : List V2) (D : Option Addr) (nb cb : Nat) (b : List V2) (hva : allV a = true) (hvb : allV b = true) (W0 : World) (hnW : n0 ≤ W0.heap.size)
    (k1 : Boxed W0 B1 29 (.slice A na ca)) (k2 : Boxed W0 B2 29 (.slice D nb cb)) (Ra : RdV W0 n0 A na a) (Rb : RdV W0 n0 D nb b) :
    SeqStopsK Fence.wide n Tryd.prog 75 #[.pointer (some ⟨B1, 0, none⟩), .pointer (some ⟨B2, 0, none⟩)] pairV (KpV n0 31 29 B1 B2) (fun ys => ys = sumV a b) (fun _ => True) (sumV a b).length W0 := fun l J Jx W hW hJ _ hY h0 =>
  sums_in n l hn B1 B2 n0 A na ca a D nb cb b hva hvb J Jx hY W (Nat.le_trans hnW hW.size) hJ (k1.kept (grown_of_below hW) (by simp)) (k2.kept (grown_of_below hW) (by simp)) (Ra.below (hW.mono hnW)) (Rb.below (hW.mono hnW)) h0
set_option maxRecDepth 100000 in
set_option maxHeartbeats 4000000 in
theorem impl_SumPolygons (w : World) (B : Nat) (hB : B ≤ w.heap.size) (A : Option Addr) (n c : Nat) (a : List V2) (R : RdV w B A n a) (D : Option Addr) (m d : Nat) (b : List V2) (S : RdV w B D m b) :
    Calls Tryd.prog 58 #[.slice A n c, .slice D m d] w fun e w' => ∃ v, e = .returned v ∧ OwnV w' w.heap.size w'.heap.size 31 v (sumL a b).length (sumL a b) ∧ Below w.heap.size w w' := by
  have HP := hide (impl_arePolygons w B hB A n c a R D m d b S)
  cases ep : (polyB a && polyB b) with
  | false =>
    have HN : Hid (sumL a b = []) := by
      show _ = _
      unfold sumL
      rw [if_neg (by intro h; rw [h.1, h.2.1] at ep; cases ep)]
    rw [ep] at HP
    clear ep R S
    go_enter Tryd.func58, Tryd.ntmps58
    go_wp2_with fail
    refine HP.out.mono ?_
    rintro e w1 ⟨rfl, hb1⟩
    go_wp2_with fail
    go_ret
    exact ⟨_, rfl, by rw [HN.out]; exact OwnV.nil _ _ _ _, hb1⟩
  | true =>
    have hep : polyB a = true ∧ polyB b = true := by simpa using ep
    have hpa := polyB_iff.1 hep.1
    have hpb := polyB_iff.1 hep.2
    have hva : allV a = true := List.all_eq_true.2 fun x hx => by obtain ⟨i, hi, rfl⟩ := mem_at hx; exact poly_vec hpa hi
    have hvb : allV b = true := List.all_eq_true.2 fun x hx => by obtain ⟨i, hi, rfl⟩ := mem_at hx; exact poly_vec hpb hi
    rw [ep] at HP
    obtain ⟨N, hN⟩ : ∃ N : Nat, 9 ≤ N := ⟨9, Nat.le_refl _⟩
    refine (callsIn_wide (n := N)).1 ?_
    refine callsIn_of_wp_marks Tryd.func58 rfl trivial ?_
    simp only [Tryd.ntmps58, List.size_toArray, List.length_cons, List.length_nil, Nat.reduceAdd, Nat.reduceSub, Array.replicate_succ, Array.replicate_zero, List.push_toArray, List.append_toArray, List.nil_append, List.cons_append]
    gi_wp2_with fail
    refine ⟨trivial, fun _ => by omega, (callsIn_wide.2 HP.out).mono ?_⟩
    rintro e w1 ⟨rfl, hb1⟩
    clear HP ep
    gi_wp2_with fail
    refine ⟨trivial, fun _ => by omega, (callsIn_wide.2 (impl_cornerSums _ A n c D m d)).mono ?_⟩
    rintro e w' ⟨rfl, rfl⟩
    have hs1 := hb1.size
    obtain ⟨W0, hW0⟩ : ∃ W0, W0 = ((w1.alloc (.cells #[.slice none 0 0] 29)).alloc (.cells #[.slice A n c] 29)).alloc (.cells #[.slice D m d] 29) := ⟨_, rfl⟩
    have bS : Boxed W0 w1.heap.size 29 (.slice none 0 0) := by rw [hW0]; exact ((Boxed.new _ _ _).alloc _).alloc _
    have k1 : Boxed W0 (w1.heap.size + 1) 29 (.slice A n c) := by
      have h := (Boxed.new (w1.alloc (.cells #[.slice none 0 0] 29)) 29 (.slice A n c)).alloc (.cells #[.slice D m d] 29)
      rw [alloc_size] at h
      rw [hW0]; exact h
    have k2 : Boxed W0 (w1.heap.size + 1 + 1) 29 (.slice D m d) := by
      have h := Boxed.new ((w1.alloc (.cells #[.slice none 0 0] 29)).alloc (.cells #[.slice A n c] 29)) 29 (.slice D m d)
      rw [alloc_size, alloc_size] at h
      rw [hW0]; exact h
    have hT0 : Below w.heap.size w W0 := by rw [hW0]; exact below_alloc (below_alloc (below_alloc hb1 _) _) _
    have hn0 := hT0.size
    have Ra := (R.wider hB).below hT0
    have Rb := (S.wider hB).below hT0
    have hna := Ra.1
    have hnb := Rb.1
    have h16 : n ≤ 16 := by have := hpa.2.1; omega
    have h16' : m ≤ 16 := by have := hpb.2.1; omega
    have hLs : (sumV a b).length ≤ 256 := by rw [sumV_len, hna, hnb]; exact Nat.le_trans (Nat.mul_le_mul h16 h16') (by omega)
    have hTE : 29 ≠ 31 := by decide
    have h0 : SumsI w w1.heap.size 31 29 w.heap.size [] W0 := ⟨⟨_, bS, World.ownsRow_nil _ _ _ _, fun _ => rfl⟩, hT0⟩
    have hbs1 : w1.heap.size + 1 < W0.heap.size := k1.lt
    clear hb1 bS
    gi_wp2_with fail
    rw [← hW0]
    clear hW0
    refine wpIn_rangeFunc_ownH rfl (by omega) (gf := 75) (lb := #[.pointer (some ⟨w1.heap.size + 1, 0, none⟩), .pointer (some ⟨w1.heap.size + 1 + 1, 0, none⟩)]) rfl trivial (enters_of Tryd.func75 (by kernel_rfl) rfl)
      (sums_stops (N - 1) (by omega) (w1.heap.size + 1) (w1.heap.size + 1 + 1) w.heap.size A n c a D m d b hva hvb W0 hn0 k1 k2 Ra Rb) kpV_t (kpV_b hn0) (Below.refl _ _) (fun _ => rfl)
      (SumsI w w1.heap.size 31 29 w.heap.size)
      (fun _ _ _ => False)
      (sumsI_own _ _ _ _ _ _ (Nat.le_refl _) hn0)
      (fun _ _ _ _ _ hs _ _ => hs)
      h0
      (fun x a' W => ∃ Bx, Box W Bx 31 #[.int .i64 x.1, .int .i64 x.2] ∧ a' = { tmps := #[.slice A n c, .slice D m d, undef, undef, .slice none 0 0, .pointer (some ⟨w1.heap.size, 0, none⟩), .pointer (some ⟨Bx, 0, none⟩), undef, .slice A n c, .slice D m d, .bool true, .bool false, .slice A n c, .slice D m d, .func (.func 75) #[] #[.pointer (some ⟨w1.heap.size + 1, 0, none⟩), .pointer (some ⟨w1.heap.size + 1 + 1, 0, none⟩)], .agg #[.int .i64 x.1, .int .i64 x.2], undef, undef, undef, undef, undef, undef, undef, undef, undef, undef], defers := [] })
      (fun x a' _ X Y row hs hg hr => by obtain ⟨Bx, h2, h3⟩ := hs; exact ⟨Bx, box_grown h2 hg (fun r e => (hr r e).2), h3⟩)
      ?assign ?body ?done ?stop
    case assign =>
      rintro l pre x W K ⟨⟨v, bS, hrow, hnil⟩, hbW⟩ hK
      unfold pairV
      gi_wp2
      exact hK _ _ ((KeepsOthers.alloc _ _).from _) (kpV_alloc hbW.size _) ⟨⟨v, bS.alloc _, hrow.alloc _, hnil⟩, hbW.alloc hbW.size _⟩ ⟨W.heap.size, Box.last _ _ _ rfl, rfl⟩
    case body =>
      rintro l pre x a' W hl ⟨r, hr⟩ ⟨⟨v, bS, hrow, hnil⟩, hbW⟩ ⟨Bx, bX, rfl⟩ hlt
      have cS := bS.cell
      have fS := bS.frozen
      obtain ⟨x0, x1⟩ := bX.cells2
      have hsz := hbW.size
      have hbsW : w.heap.size ≤ w1.heap.size := hs1
      clear bX
      gi_wp2_with (gi_at_builtin; refine wpListIn_append_two _ rfl _ _ _ rfl w.heap.size 31 16 Tryd.sliceVec v pre.length (fl pre) rfl (hrow.alloc _) (fun h => ⟨none, hnil h⟩) ⟨W.heap.size, 0, none⟩ 1 [.int .i64 x.1, .int .i64 x.2] rfl rfl (cells_new2 _ _ _ _) (by simp [Value.oneCell']) (by unfold maxLen; omega) (by omega) (by rw [alloc_size]; omega) ?_; intro v' w2 hown' hgrow hk2; obtain ⟨g', cap', rfl⟩ := ownsRow_succ hown'; obtain ⟨hv1, hv2, hr2, hko, hb2⟩ := bS.appended hTE hrow hsz hbsW hown' hgrow; have hc1 := hv1.cell; have hf1 := hv1.frozen)
      refine ⟨hko.from _, kpV_t (kpV_alloc hsz _) (kpV_t (kpV_row (hrow.alloc _) hgrow (Nat.le_refl _) (by rw [alloc_size]; omega) hk2 hTE) (kpV_set hv1 hTE hbsW (by omega) (by omega) _)), ⟨⟨_, hv2, ?_, fun h => ?_⟩, hbW.trans hb2⟩⟩
      · rw [fl_append, List.length_append]; exact hr2
      · simp at h
    case done =>
      rintro D' ys W hD rfl ⟨⟨v, bS, hrow, hnil⟩, hbW⟩ hK
      have hwS : wfV (sumV a b) := wfV_sum hpa hpb
      have hDl : D' < W.heap.size := (Array.getElem?_eq_some_iff.1 hK).1
      have o0 : OwnV W w.heap.size W.heap.size 31 v (sumV a b).length (sumV a b) := OwnV.of_row hrow (Nat.le_refl _)
      obtain ⟨A1, c1, rfl⟩ := o0.form
      have HH := hide (impl_HullOf W W.heap.size (Nat.le_refl _) A1 _ c1 _ (o0.rdV (by omega) hwS))
      have cS := bS.cell
      clear hrow hnil bS
      gi_wp2_with fail
      refine ⟨trivial, fun _ => by omega, (callsIn_wide.2 HH.out).mono ?_⟩
      rintro e w3 ⟨r, rfl, o3, hb3⟩
      clear cS HH o0
      obtain ⟨A3, c3, rfl⟩ := o3.form
      have hbL := hullV_len (sumV a b)
      have HI := hide (impl_IsPolygon w3 w3.heap.size (Nat.le_refl _) A3 _ c3 _ (o3.rdV hbL (hullV_wf hwS)))
      have hT3 := hbW.trans (hb3.mono hbW.size)
      have hK3 : w3.heap[D']? = some (.deferred (some [])) := (hb3.block D' hDl).trans hK
      have hs3 := hb3.size
      have hh3 := hbW.size
      clear hb3 hK
      gi_wp2_with fail
      refine ⟨trivial, fun _ => by omega, (callsIn_wide.2 HI.out).mono ?_⟩
      rintro e w4 ⟨rfl, hb4⟩
      have o4 := o3.below hb4 (Nat.le_refl _)
      have hT4 := hT3.trans (hb4.mono (by omega))
      have hK4 : w4.heap[D']? = some (.deferred (some [])) := (hb4.block D' (by omega)).trans hK3
      have hs4 := hb4.size
      clear HI o3 hT3 hb4 hK3
      have hbP : Below w.heap.size w (w4.putObj D' (.deferred none)) := hT4.trans (belowK_b (w := w) (Nat.le_refl _) w4 D' _ _ (by omega) hK4 rfl rfl)
      cases eh : polyB (hullV (sumV a b)) with
      | false =>
        have HN := hide (sumL_no (a := a) (b := b) eh)
        clear o4
        gi_wp2
        refine ⟨by simp, .inl ⟨_, _, rfl, run_takeDeferred hK4, ?_⟩⟩
        exact ⟨_, results_tmp rfl _ _ _, _, rfl, by rw [HN.out]; exact OwnV.nil _ _ _ _, hbP⟩
      | true =>
        have HN := hide (sumL_is hep.1 hep.2 eh)
        have o5 : OwnV (w4.putObj D' (.deferred none)) w.heap.size (w4.putObj D' (.deferred none)).heap.size 31 (.slice A3 (hullV (sumV a b)).length c3) (hullV (sumV a b)).length (hullV (sumV a b)) :=
          ⟨ownsRow_putObj (own_lower o4.1 (by omega)) _ hK4 rfl, fun g hg => by have := o4.2 g hg; simp; omega⟩
        clear o4
        gi_wp2
        refine ⟨by simp, .inl ⟨_, _, rfl, run_takeDeferred hK4, ?_⟩⟩
        exact ⟨_, results_tmp rfl _ _ _, _, rfl, by rw [HN.out]; exact o5, hbP⟩
    case stop =>
      rintro D' c' pre W _ _ h _
      exact h.elim
theorem negL_wf (l : List V2) : wfV (negL l) := by
  unfold negL
  split
  · rename_i h
    intro v hv
    obtain ⟨u, hu, rfl⟩ := List.mem_map.1 hv
    exact neg_wf (List.all_eq_true.1 h u hu)
  · intro v hv; simp at hv
theorem negL_len (l : List V2) : (negL l).length ≤ l.length := by
  unfold negL
  split
  · simp
  · simp
theorem impl_ObstacleFor (w : World) (B : Nat) (hB : B ≤ w.heap.size) (A : Option Addr) (n c : Nat) (a : List V2) (R : RdV w B A n a) (D : Option Addr) (m d : Nat) (b : List V2) (S : RdV w B D m b) :
    Calls Tryd.prog 40 #[.slice A n c, .slice D m d] w fun e w' => ∃ v, e = .returned v ∧ OwnV w' w.heap.size w'.heap.size 31 v (obsL a b).length (obsL a b) ∧ Below w.heap.size w w' := by
  have HN := hide (impl_NegatePolygon w B hB A n c a R)
  have hl : (negL a).length ≤ 1048576 := by have := negL_len a; have := R.1; have := R.2.2.1; omega
  go_enter Tryd.func40, Tryd.ntmps40
  go_wp2_with fail
  refine HN.out.mono ?_
  rintro e w1 ⟨v, rfl, o1, hb1⟩
  obtain ⟨A1, c1, rfl⟩ := o1.form
  have HS := hide (impl_SumPolygons w1 w1.heap.size (Nat.le_refl _) D m d b ((S.wider hB).up hb1) A1 _ c1 _ (o1.rdV hl (negL_wf a)))
  have hs1 := hb1.size
  clear o1
  go_wp2_with fail
  refine HS.out.mono ?_
  rintro e w2 ⟨v2, rfl, o2, hb2⟩
  have o3 := o2.wider (lo' := w.heap.size) (hi' := w2.heap.size) hs1 (Nat.le_refl _)
  clear o2
  go_wp2_with fail
  go_ret
  exact ⟨_, rfl, o3, below_then hb1 hb2⟩
end Go.Proofs.YtocllmaikngoaaaDoor
