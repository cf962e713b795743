/-
  The texts TouW, TouL, put together; each has its own heading below. No condition of ours.
-/
import Derived.Test.YtdagomikjblgiaaGreatPolD2
import Derived.Test.YtdagomikjblgiaaGreatPolG
import Derived.Test.YtdagomikjblgiaaGreatMI
import Derived.Test.YtdagomikjblgiaaGreatMinI4
import Derived.Test.YtdagomikjblgiaaGreatSumI
import Derived.Test.YtdagomikjblgiaaGreatVecD
/-
  The law of touching: what lies in the blocked area; its walk.
-/






namespace Go.Proofs.YtdagomikjblgiaaGreat
open Go.RowKit
set_option linter.unusedVariables false
theorem small_wfT {l : List V2} (h : ∀ v ∈ l, smallV v) : wfV l := fun v hv => (h v hv).wf
theorem atPt_ofT {w w' : World} {v0 v1 v2 v3 v4 v5 : Value} {x y : Int} (o : POwn w' w.heap.size w'.heap.size 3 v0 v1 v2 v3 v4 v5 (vecP x y)) (h : vecB x y = true) : atPt w' w'.heap.size v0 v1 v2 v3 v4 v5 x y := ⟨o.in_ (vecP_fit x y) (Nat.le_refl _), h⟩
theorem poly_all {l : List V2} (h : polyP l) : allV l = true := List.all_eq_true.2 fun x hx => by obtain ⟨i, hi, rfl⟩ := mem_at hx; exact poly_vec h hi
/-- a polygon moved within the range is a polygon -/
theorem poly_move {l : List V2} (h : polyP l) {v : V2} (hv : allV (l.map fun p => addV p v) = true) : polyP (l.map fun p => addV p v) := by
  refine ⟨by rw [List.length_map]; exact h.1, by rw [List.length_map]; exact h.2.1, fun i hi j hj n1 n2 => ?_⟩
  rw [List.length_map] at *
  have hi1 : (i + 1) % l.length < l.length := Nat.mod_lt _ (by omega)
  have := h.2.2 i hi j hj n1 n2
  have hn : ∀ k, k < l.length → vecV (addV (atV l k) v) = true := fun k hk => List.all_eq_true.1 hv _ (List.mem_map_of_mem (at_mem hk))
  rw [at_map _ hi, at_map _ hi1, at_map _ hj, tV_tn (hn i hi) (hn _ hi1) (hn j hj), tn_addr]
  rwa [tV_tn (poly_vec h hi) (poly_vec h hi1) (poly_vec h hj)] at this
/-- an edge that separates -/
theorem sepL_neg {a b : List V2} (ha : polyP a) (hb : polyP b) : sepL a b < 0 ↔ ¬ sepP a b := by
  rw [sepL_is (polyB_iff.2 ha) (polyB_iff.2 hb)]
  have hi : ∀ i, i < a.length → (sepI a b i = true ↔ ∀ q ∈ b, tn (atV a i) (atV a ((i + 1) % a.length)) q < 0) := fun i hi => by
    rw [sepI_yes]
    have hi1 : (i + 1) % a.length < a.length := Nat.mod_lt _ (by omega)
    refine forall_congr' fun q => forall_congr' fun hq => ?_
    obtain ⟨j, hj, rfl⟩ := mem_at hq
    rw [tV_tn (poly_vec ha hi) (poly_vec ha hi1) (poly_vec hb hj)]
  constructor
  · rintro h ⟨i, hi', hs⟩
    -- the first of them
    have hex : ∃ k, k < a.length ∧ sepI a b k = true := ⟨i, hi', (hi i hi').2 hs⟩
    unfold sepK at h
    cases e : (List.range a.length).find? (sepI a b) with
    | none =>
      rw [List.find?_eq_none] at e
      exact e i (List.mem_range.2 hi') ((hi i hi').2 hs)
    | some k => rw [e] at h; simp only at h; omega
  · intro h
    rw [sepK_no fun i hi' => by
      cases e : sepI a b i with
      | false => rfl
      | true => exact (h ⟨i, hi', (hi i hi').1 e⟩).elim]
    omega
theorem touB_iff {a b : List V2} (ha : polyP a) (hb : polyP b) : touB a b = true ↔ ¬ sepP a b ∧ ¬ sepP b a := by
  unfold touB
  rw [polyB_iff.2 ha, polyB_iff.2 hb]
  simp only [Bool.true_and, Bool.and_eq_true, decide_eq_true_eq]
  rw [sepL_neg ha hb, sepL_neg hb ha]
theorem self_sep {a : List V2} (ha : polyP a) : ¬ sepP a a := by
  rintro ⟨i, hi, hs⟩
  have := hs _ (at_mem hi)
  rw [tn_l] at this
  omega
/-- what the law asks of two of its polygons -/
theorem two_touch {D E : List V2} (hD : polyP D) (hE : polyP E) (h5 : D.length ≤ 5) (h5' : E.length ≤ 5) (hd : ∀ v ∈ D, smallV v) (he : ∀ v ∈ E, smallV v) {x y : Int} (hx : x.natAbs ≤ 10) (hy : y.natAbs ≤ 10) :
    touB (mvL D (x, y)) E = decide (0 ≤ contB (obsL D E) (x, y)) ∧ touB E (mvL D (x, y)) = decide (0 ≤ contB (obsL D E) (x, y)) ∧ touB D D = true ∧ sepL D D = -1 := by
  have hv : vecV (x, y) = true := by unfold vecV vecB; simp; omega
  have hmv : allV (D.map fun p => addV p (x, y)) = true := List.all_eq_true.2 fun q hq => by
    obtain ⟨p, hp, rfl⟩ := List.mem_map.1 hq
    obtain ⟨k1, k2⟩ := hd p hp
    unfold addV vecV vecB
    simp
    omega
  have hM : mvL D (x, y) = D.map fun p => addV p (x, y) := by unfold mvL; rw [if_pos ⟨hv, hmv⟩]
  have hMp := poly_move hD hmv
  have hN : negL D = D.map ng := by unfold negL; rw [if_pos (poly_all hD)]
  have hNp := poly_ng hD
  have hsv : allV (sumV E (D.map ng)) = true := List.all_eq_true.2 fun q hq => by
    obtain ⟨p, hp, r, hr, rfl⟩ := sumV_mem.1 hq
    obtain ⟨u, hu, rfl⟩ := List.mem_map.1 hr
    obtain ⟨k1, k2⟩ := hd u hu
    obtain ⟨k3, k4⟩ := he p hp
    unfold addV ng vecV vecB
    simp
    omega
  have hsl : (sumV E (D.map ng)).length ≤ 64 := by
    rw [sumV_len, List.length_map]
    exact Nat.le_trans (Nat.mul_le_mul h5' h5) (by omega)
  have hP := sum_poly hE hNp (by rw [List.length_map]; omega) hsv
  have hO : obsL D E = hullV (sumV E (D.map ng)) := by
    unfold obsL
    rw [hN]
    exact sumL_is (polyB_iff.2 hE) (polyB_iff.2 hNp) (polyB_iff.2 hP)
  have hT := touch_iff hD hE hsl hsv hP (x, y)
  have hC : 0 ≤ contB (obsL D E) (x, y) ↔ ¬ (sepP (D.map fun p => addV p (x, y)) E ∨ sepP E (D.map fun p => addV p (x, y))) := by
    rw [hO, contB_nn hP, ← hT]
    constructor
    · rintro h ⟨i, hi, hn⟩; have := h i hi; omega
    · intro h i hi
      rcases Int.lt_or_le (tn (atV (hullV (sumV E (D.map ng))) i) (atV (hullV (sumV E (D.map ng))) ((i + 1) % (hullV (sumV E (D.map ng))).length)) (x, y)) 0 with k | k
      · exact (h ⟨i, hi, k⟩).elim
      · exact k
  refine ⟨?_, ?_, (touB_iff hD hD).2 ⟨self_sep hD, self_sep hD⟩, ?_⟩
  · rw [Bool.eq_iff_iff, decide_eq_true_iff, hM, touB_iff hMp hE, hC, not_or]
  · rw [Bool.eq_iff_iff, decide_eq_true_iff, hM, touB_iff hE hMp, hC, not_or, and_comm]
  · have h1 := (sepL_neg hD hD).2 (self_sep hD)
    have := (sepL_range D D).1
    omega
end Go.Proofs.YtdagomikjblgiaaGreat

/-
  The law of touching: its walk.
-/

namespace Go.Proofs.YtdagomikjblgiaaGreat
open Go.RowKit
set_option linter.unusedVariables false
set_option maxRecDepth 100000 in
set_option maxHeartbeats 4000000 in
theorem FnTouch_walk (w : World) (a0 : Option Addr) (len0 cap0 : Nat) (zs : List Int) (f0 : IsRow .u8 w a0 len0 cap0 zs) :
    Calls Tryz.prog 3 #[.slice a0 len0 cap0] w fun e w' => e = .returned (.bool true) ∧ Below w.heap.size w w' := by
  obtain ⟨F, hL, hM⟩ := f0.bytesF
  obtain ⟨FB, -⟩ := f0.bytes
  clear f0
  generalize zs.take len0 = bs at F hL
  subst hL
  by_cases c0 : 1048576 < bs.length
  · unfold maxLen at hM
    clear F FB
    go_enter Tryz.func3, Tryz.ntmps3
    go_wp2_with fail
    go_ret
    exact ⟨rfl, Below.refl _ _⟩
  obtain ⟨D, hD⟩ : ∃ D, D = drawF bs 8 (skipF bs (newS bs) (7 * 0)) := ⟨_, rfl⟩
  obtain ⟨E, hE⟩ : ∃ E, E = drawF bs 8 (skipF bs (newS bs) (7 * 1)) := ⟨_, rfl⟩
  obtain ⟨d1, d2, d3⟩ := drawF_small bs 8 (skipF bs (newS bs) (7 * 0))
  obtain ⟨e1, e2, e3⟩ := drawF_small bs 8 (skipF bs (newS bs) (7 * 1))
  obtain ⟨d4, d5⟩ := drawF_five bs 8 (skipF bs (newS bs) (7 * 0))
  obtain ⟨e4, e5⟩ := drawF_five bs 8 (skipF bs (newS bs) (7 * 1))
  have HM0 := hide (fun (W : World) (hb : Below w.heap.size w W) => show Calls Tryz.prog 4 #[.slice a0 bs.length cap0, .int .i64 0] W _ from MakePolygon_f cap0 w.heap.size a0 bs 0 (by omega) W (by omega) (F.below hb) hb.size)
  have HM1 := hide (fun (W : World) (hb : Below w.heap.size w W) => show Calls Tryz.prog 4 #[.slice a0 bs.length cap0, .int .i64 1] W _ from MakePolygon_f cap0 w.heap.size a0 bs 1 (by omega) W (by omega) (F.below hb) hb.size)
  have HMV := hide (fun (W : World) (hb : Below w.heap.size w W) => show Calls Tryz.prog 5 #[.slice a0 bs.length cap0, .int .i64 9] W _ from MakeVec_s bs.length cap0 w.heap.size a0 9 (by omega) W (by omega) (FB.below hb) hb.size)
  rw [← hD] at HM0 d1 d2 d3 d4 d5
  rw [← hE] at HM1 e1 e2 e3 e4 e5
  have HTT := hide (fun (x y : Int) (hx : x.natAbs ≤ 10) (hy : y.natAbs ≤ 10) => two_touch d3 e3 d4 e4 d1 e1 hx hy)
  have HDW := hide (small_wfT d1)
  have HEW := hide (small_wfT e1)
  have HDA := hide (poly_all d3)
  have hoLen : (obsL D E).length ≤ 1048576 := sumL_len _ _
  have hoW : wfV (obsL D E) := sumL_wf _ _
  clear hD hE d1 d2 d3 d5 e1 e2 e3 e5 F FB
  go_enter Tryz.func3, Tryz.ntmps3
  go_wp2_with fail
  refine (HM0.out w (Below.refl _ _)).mono ?_
  rintro e w1 ⟨v1, rfl, o1, hb1⟩
  go_wp2_with fail
  refine (HM1.out w1 hb1).mono ?_
  rintro e w2 ⟨v2, rfl, o2, hb2⟩
  have o1 := o1.below hb2 (Nat.le_refl _)
  have hT2 := below_then hb1 hb2
  obtain ⟨A1, c1, rfl⟩ := o1.form
  obtain ⟨A2, c2, rfl⟩ := o2.form
  have R1 := o1.rdV (by omega) HDW.out
  have R2 := o2.rdV (by omega) HEW.out
  clear hb1 hb2 o1 o2 HM0 HM1
  go_wp2_with fail
  refine (HMV.out w2 hT2).mono ?_
  rintro e w3 ⟨x, y, rfl, ⟨hx, hy⟩, hb3⟩
  have R1 := R1.up hb3
  have R2 := R2.up hb3
  have hT3 := below_then hT2 hb3
  have hvv : vecB x y = true := by unfold vecB; simp; omega
  have hwx : (Lit.int .i64 x).wf = true := WalkArith.wf_i64 ⟨by omega, by omega⟩
  have hwy : (Lit.int .i64 y).wf = true := WalkArith.wf_i64 ⟨by omega, by omega⟩
  obtain ⟨t1, t2, t3, t4⟩ := HTT.out x y hx hy
  have hmL : (mvL D (x, y)).length ≤ 1048576 := by have := mvL_len (l := D) (x, y); omega
  have hmW : wfV (mvL D (x, y)) := mvL_wf _
  clear HMV HTT hb3 hT2
  obtain ⟨W4, hW4⟩ : ∃ W4, W4 = w3.alloc (.cells #[.int .i64 x, .int .i64 y] 26) := ⟨_, rfl⟩
  have hb34 : Below w3.heap.size w3 W4 := by rw [hW4]; exact below_new _ _
  have kv : Box W4 w3.heap.size 26 #[.int .i64 x, .int .i64 y] := by rw [hW4]; exact Box.last _ _ _ rfl
  have R1 := R1.up hb34
  have R2 := R2.up hb34
  have hT4 := below_then hT3 hb34
  have HMP := hide (impl_MovePolygon W4 W4.heap.size (Nat.le_refl _) A1 D.length c1 D R1 HDA.out x y hvv)
  go_upto_region 6 with fail
  rw [← hW4]
  clear hW4 hb34 hT3
  obtain ⟨y0, y1⟩ := kv.cells2
  go_wp2_with fail
  refine HMP.out.mono ?_
  rintro e w5 ⟨v5, rfl, o5, hb5⟩
  obtain ⟨A5, c5, rfl⟩ := o5.form
  have R1 := R1.up hb5
  have R2 := R2.up hb5
  have RM := o5.rdV hmL hmW
  have hT5 := below_then hT4 hb5
  have kv := kv.below hb5 kv.lt
  clear HMP o5 hb5 hT4 y0 y1
  have HKV := hide (fun (W : World) (hb : Below w5.heap.size w5 W) => (kv.below hb kv.lt).cells2)
  have HS0 : Hid (Below w5.heap.size w5 w5.drew) := (Below.refl _ _).drew
  have HOB := hide (fun (W : World) (hb : Below w5.heap.size w5 W) => impl_ObstacleFor W w5.heap.size hb.size A1 D.length c1 D (R1.below hb) A2 E.length c2 E (R2.below hb))
  have HPO := hide (fun (W : World) => impl_PointOf W x y hwx hwy)
  obtain ⟨y0, y1⟩ := kv.cells2
  obtain ⟨cv, hcv⟩ : ∃ cv, cv = contB (obsL D E) (x, y) := ⟨_, rfl⟩
  rw [← hcv] at t1 t2
  have HCV := hide hcv
  clear hcv
  obtain ⟨r, hr⟩ : ∃ r : Bool, decide (0 ≤ cv) = r := ⟨_, rfl⟩
  rw [hr] at t1 t2
  have HT1 := hide (fun (W : World) (A A' : Option Addr) (c c' : Nat) (Ra : RdV W W.heap.size A (mvL D (x, y)).length (mvL D (x, y))) (Rb : RdV W W.heap.size A' E.length E) => impl_Touches W W.heap.size (Nat.le_refl _) A _ c _ Ra A' _ c' _ Rb)
  have HT2 := hide (fun (W : World) (A A' : Option Addr) (c c' : Nat) (Ra : RdV W W.heap.size A (mvL D (x, y)).length (mvL D (x, y))) (Rb : RdV W W.heap.size A' E.length E) => impl_Touches W W.heap.size (Nat.le_refl _) A' _ c' _ Rb A _ c _ Ra)
  have HT3 := hide (fun (W : World) (A : Option Addr) (c : Nat) (Ra : RdV W W.heap.size A D.length D) => impl_Touches W W.heap.size (Nat.le_refl _) A _ c _ Ra A _ c _ Ra)
  have HT4 := hide (fun (W : World) (A : Option Addr) (c : Nat) (Ra : RdV W W.heap.size A D.length D) => impl_SeparatingEdge W W.heap.size (Nat.le_refl _) A _ c _ Ra A _ c _ Ra)
  rw [t1] at HT1
  rw [t2] at HT2
  rw [t3] at HT3
  rw [t4] at HT4
  clear t1 t2 t3 t4
  go_upto_region 7 with fail
  cases r
  all_goals
   first
    | have hcp : 0 ≤ cv := by simpa using hr
    | have hcp : ¬ 0 ≤ cv := by simpa using hr
   clear hr
   go_region_held3 (fun w' => w'.cell? ⟨w3.heap.size, 0, none⟩ = some (.int .i64 x) ∧ w'.cell? ⟨w3.heap.size, 1, none⟩ = some (.int .i64 y))
      (first | (with_reducible exact HKV.out _ HS3.out) | (with_reducible exact HKV.out _ HS2.out) | (with_reducible exact HKV.out _ HS1.out) | (with_reducible exact HKV.out _ HS0.out))
      (first
        | (go_at_call 7; (with_reducible refine Calls.mono HCA.out ?_); rintro e u3 ⟨rfl, hb3⟩; have HS3 := hide (below_then HS2.out hb3))
        | (go_at_call 9; (with_reducible refine Calls.mono (HPO.out _) ?_); rintro e u2 ⟨p0, p1, p2, p3, p4, p5, rfl, op, hb2⟩; have HS2 := hide (below_then HS1.out hb2); have HCA := hide (impl_ContainsAt u2 u2.heap.size (Nat.le_refl _) A6 (obsL D E).length c6 (obsL D E) ((RO.below hb2).wider hb2.size) (atPt_ofT op hvv)); rw [← HCV.out] at HCA)
        | (go_at_call 8; (with_reducible refine Calls.mono (HOB.out _ HS0.out) ?_); rintro e u1 ⟨v6, rfl, o6, hb1⟩; obtain ⟨A6, c6, rfl⟩ := o6.form; have HS1 := hide (below_then HS0.out hb1); have RO := o6.rdV hoLen hoW))
   have hTu := below_then hT5 HS3.out
   have R1 := R1.up HS3.out
   have R2 := R2.up HS3.out
   have RM := RM.up HS3.out
   clear hT5 HKV HS0 HS1 HS2 HS3 HOB HPO HCA RO op hb1 hb2 hb3 y0 y1 kv o6
   go_wp2_with fail
   refine (HT1.out u3 A5 A2 c5 c2 RM R2).mono ?_
   rintro e w7 ⟨rfl, hb7⟩
   have R1 := R1.up hb7
   have R2 := R2.up hb7
   have RM := RM.up hb7
   have hT7 := below_then hTu hb7
   clear hTu hb7
   go_wp2_with fail
   refine (HT2.out w7 A5 A2 c5 c2 RM R2).mono ?_
   rintro e w8 ⟨rfl, hb8⟩
   have R1 := R1.up hb8
   have hT8 := below_then hT7 hb8
   clear hT7 hb8
   go_wp2_with fail
   refine (HT3.out w8 A1 c1 R1).mono ?_
   rintro e w9 ⟨rfl, hb9⟩
   have R1 := R1.up hb9
   have hT9 := below_then hT8 hb9
   clear hT8 hb9
   go_wp2_with fail
   refine (HT4.out w9 A1 c1 R1).mono ?_
   rintro e w10 ⟨rfl, hb10⟩
   have hT10 := below_then hT9 hb10
   go_wp2_with fail
   go_ret
   first | exact ⟨rfl, hT10⟩ | exact ⟨ret_bool (by simpa using hcp), hT10⟩
end Go.Proofs.YtdagomikjblgiaaGreat
