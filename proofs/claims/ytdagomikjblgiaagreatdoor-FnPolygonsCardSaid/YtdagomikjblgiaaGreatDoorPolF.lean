/-
  Polygons as text: FormatPolygon: both sides' contracts.
-/
import Derived.Test.YtdagomikjblgiaaGreatDoorPolI
import Derived.Test.YtdagomikjblgiaaGreatDoorPolR
import Derived.Test.YtdagomikjblgiaaGreatDoorPtF
import Derived.Test.YtdagomikjblgiaaGreatDoorSJ
namespace Go.Proofs.YtdagomikjblgiaaGreatDoor
open Go.RowKit
set_option linter.unusedVariables false
def fmtV2 (v : V2) : ByteArray := fmtV v.1 v.2
noncomputable def fmtL (l : List V2) : ByteArray := if polyB l then joinB (l.map fmtV2) ⟨#[32]⟩ else ⟨#[]⟩
theorem fmtL_ok {l : List V2} (h : polyB l = true) : fmtL l = joinB (l.map fmtV2) ⟨#[32]⟩ := by rw [fmtL, h]; rfl
theorem fmtL_no {l : List V2} (h : polyB l = false) : fmtL l = ⟨#[]⟩ := by rw [fmtL, h]; rfl
theorem fmtV_sz2 (x y : Int) : (fmtV x y).size ≤ 2005 := by
  cases h : vecB x y with
  | false => rw [fmtV_no h]; show 0 ≤ _; omega
  | true =>
    have s1 := itoaB_sz x
    have s2 := itoaB_sz y
    rw [fmtV_ok h, ByteArray.size_append, ByteArray.size_append]
    unfold vecB at h
    simp at h
    have : ByteArray.size ⟨#[44]⟩ = 1 := rfl
    omega
theorem sumS_fmt (l : List V2) : sumS (l.map fmtV2) ≤ l.length * 2005 := by
  induction l with
  | nil => simp [sumS]
  | cons a r ih =>
    have := fmtV_sz2 a.1 a.2
    unfold sumS at ih ⊢
    simp only [List.map_cons, List.sum_cons, List.length_cons]
    have e : (fmtV2 a).size ≤ 2005 := this
    omega
theorem sv_snoc {l : List V2} {k : Nat} (h : k < l.length) : sv ((l.take (k + 1)).map fmtV2) = sv ((l.take k).map fmtV2) ++ [.string (fmtV l[k].1 l[k].2)] := by
  rw [List.take_succ_eq_append_getElem h, List.map_append]; unfold sv; rw [List.map_append]; rfl
set_option maxRecDepth 100000 in
set_option maxHeartbeats 3200000 in
theorem impl_FormatPolygon (w : World) (B : Nat) (hB : B ≤ w.heap.size) (A : Option Addr) (n c : Nat) (l : List V2) (R : RdV w B A n l) (hPT : PowTab w) :
    Calls Tryz.prog 8 #[.slice A n c] w fun e w' => e = .returned (.string (fmtL l)) ∧ Below w.heap.size w w' := by
  have HA := hide (fun (W : World) (hb : Below B w W) => impl_IsPolygon W B (Nat.le_trans hB hb.size) A n c l ⟨R.1, R.2.1.below hb, R.2.2.1, R.2.2.2⟩)
  obtain ⟨hn, hx, hl, hwf⟩ := R
  have hPL := hPT.lt
  have HP := hide hPT
  clear hPT
  go_enter Tryz.func8, Tryz.ntmps8
  go_wp2_with fail
  refine (HA.out _ (by first | exact Below.refl _ _ | exact (Below.refl _ _).drew)).mono ?_
  rintro e w1 ⟨rfl, hb1⟩
  have hb1 : Below w.heap.size w w1 := by first | exact hb1 | exact undrew hb1
  clear HA
  by_cases ev : polyB l = true
  case neg =>
    have ev : polyB l = false := by simpa using ev
    have HN := hide (fmtL_no ev)
    rw [ev]
    go_wp2_with fail
    go_ret
    exact ⟨by rw [HN.out]; rfl, by first | exact hb1 | exact hb1.drew⟩
  have HF := hide (fmtL_ok ev)
  obtain ⟨h3, h16, _⟩ := polyB_iff.1 ev
  rw [ev]
  clear ev
  have hs1 := hb1.size
  go_wp2_with fail
  go_loopw [3, 11] (fun v i wr => ∃ k : Nat, k ≤ n ∧ i = .int .i64 k ∧ wr.ownsRow w.heap.size 9 1 v k (sv ((l.take k).map fmtV2)) ∧ Below w.heap.size w wr) (fun _ i _ => n - (intOf i).toNat)
  case atStart => exact ⟨0, Nat.zero_le _, rfl, by simpa [sv] using World.ownsRow_nil _ _ _ _, by first | exact hb1 | exact hb1.drew⟩
  case round =>
    clear hb1
    obtain ⟨k, hk, rfl, hown, hbel⟩ := hrel
    by_cases hlt : k < n
    · obtain ⟨ad, hA, hb1, hc1, hc2⟩ := (hx.below (hbel.mono hB)).vec (k := k) (by omega)
      have hkl : k < l.length := by omega
      obtain ⟨f1, f2⟩ := wfV_at hwf hkl
      have HM := hide (sv_snoc hkl)
      have hbs := hbel.size
      have HV := hide (fun (W : World) (hb : Below w.heap.size w W) => impl_FormatVec W l[k].1 l[k].2 f1 f2 (HP.out.below hb hPL))
      generalize hv : l[k] = v0 at *
      obtain ⟨x0, y0⟩ := v0
      generalize fmtV x0 y0 = Z at *
      obtain ⟨W0, hW0⟩ : ∃ W0, W0 = wr.alloc (.cells #[.int .i64 x0, .int .i64 y0] 26) := ⟨_, rfl⟩
      have ka : Box W0 wr.heap.size 26 #[.int .i64 x0, .int .i64 y0] := by rw [hW0]; exact Box.last _ _ _ rfl
      have hT : Below wr.heap.size wr W0 := by rw [hW0]; exact below_new _ _
      subst hA
      go_upto_region 7 with fail
      rw [← hW0]
      clear hW0 hc1 hc2
      obtain ⟨ya0, ya1⟩ := ka.cells2
      go_wp2_with fail
      refine (HV.out _ (hbel.trans (hT.mono hbs))).mono ?_
      rintro e w2 ⟨rfl, hb2⟩
      clear ya0 ya1 HV
      have hT2 := hT.trans (hb2.mono hT.size)
      have hown2 := own_grown hown hT2
      have hbel2 := hbel.trans (hT2.mono hbs)
      have hbs2 := hbel2.size
      clear hown hT hT2 hb2
      go_wp2_with (at_builtin; refine wpList_append1 Tryz.sliceStr rfl _ _ rfl w2 w.heap.size _ _ _ hown2 rfl #[.string Z] 1 rfl rfl (by simp [Value.oneCell']) (by omega) (by omega) (by omega) ?_; intro v' w3 hown3 hb3)
      go_roundw
      case rel => exact ⟨k + 1, by omega, by go_num, by rw [HM.out]; exact hown3, hbel2.trans hb3⟩
      case measure => simp [intOf]; omega
    · obtain rfl : k = n := by omega
      have e : (l.take k).map fmtV2 = l.map fmtV2 := by rw [List.take_of_length_le (by omega)]
      rw [e] at hown
      rcases own_form hown with ⟨_, h0, _⟩ | ⟨g, c', rfl, _, _⟩
      · omega
      have hg := (hown.lt g rfl).2
      have hcap := (own_nilcap hown).2.1
      have hml : (l.map fmtV2).length = k := by rw [List.length_map]; exact hn
      have hcells : ∀ (j : Nat) x, (l.map fmtV2)[j]? = some x → wr.cell? ⟨g, 0 + j, none⟩ = some (.string x) := fun j x hj => by
        have hjl : j < k := by have := (List.getElem?_eq_some_iff.1 hj).1; omega
        rw [Nat.zero_add, hown.cellAt j (by omega)]
        unfold sv
        rw [List.getElem?_map, hj]; rfl
      have hsum : sumS (l.map fmtV2) ≤ 1048576 := by have := sumS_fmt l; omega
      have HC := hide (fun (W : World) (hb : Below wr.heap.size wr W) => joinWith_any g k c' (l.map fmtV2) ⟨#[32]⟩ W hml hcap (fun j x hj => (hb.cell (p := ⟨g, 0 + j, none⟩) hg).trans (hcells j x hj)) (Nat.lt_of_lt_of_le hg hb.size) (by omega) (join_bound _ _ (by omega) hsum (by decide)))
      rw [← HF.out] at HC
      obtain ⟨Z, hZ⟩ : ∃ Z, Z = fmtL l := ⟨_, rfl⟩
      rw [← hZ] at HC
      have HZ := hide hZ
      clear hZ
      clear hcells hown e hx
      go_wp2_with fail
      refine (HC.out _ (by first | exact Below.refl _ _ | exact (Below.refl _ _).drew)).mono ?_
      rintro e w2 ⟨rfl, hb2⟩
      go_wp2_with fail
      go_ret
      exact ⟨by rw [← HZ.out]; rfl, by first | exact hbel.trans (hb2.mono hbel.size) | exact hbel.trans ((undrew hb2).mono hbel.size)⟩
end Go.Proofs.YtdagomikjblgiaaGreatDoor
