/-
  Polygons as text: ParsePolygon: both sides' contracts.
-/
import Derived.Test.YtdagomikjblgiaaGreatDoorPolI
import Derived.Test.YtdagomikjblgiaaGreatDoorPolR
import Derived.Test.YtdagomikjblgiaaGreatDoorPtP
import Derived.Test.YtdagomikjblgiaaGreatDoorSplitI
import Derived.Test.YtdagomikjblgiaaGreatDoorVecA
import Derived.ArgAppend
namespace Go.Proofs.YtdagomikjblgiaaGreatDoor
open Go.RowKit
set_option linter.unusedVariables false
theorem okV_nil : okV ⟨#[]⟩ = false := okV_tail (.inl (by rfl))
theorem sumS_app (xs ys : List ByteArray) : sumS (xs ++ ys) = sumS xs + sumS ys := by simp [sumS]
theorem pieces_sum (s b : ByteArray) : ∀ i, i ≤ s.size → sumS (pieces s b i).1 ≤ (pieces s b i).2 ∧ (pieces s b i).2 ≤ i := by
  intro i
  induction i with
  | zero => intro _; simp [pieces, sumS]
  | succ i ih =>
    intro h
    obtain ⟨h1, h2⟩ := ih (by omega)
    unfold pieces
    split
    · refine ⟨?_, Nat.le_refl _⟩
      show sumS (_ ++ [_]) ≤ i + 1
      rw [sumS_app]
      have : sumS [s.extract (pieces s b i).2 i] ≤ i - (pieces s b i).2 := by
        simp only [sumS, List.map_cons, List.map_nil, List.sum_cons, List.sum_nil, ByteArray.size_extract]; omega
      omega
    · exact ⟨h1, by omega⟩
theorem sumS_splitL (s b : ByteArray) : sumS (splitL s b) ≤ s.size := by
  obtain ⟨h1, h2⟩ := pieces_sum s b s.size (Nat.le_refl _)
  unfold splitL
  rw [sumS_app]
  have : sumS [s.extract (pieces s b s.size).2 s.size] ≤ s.size - (pieces s b s.size).2 := by
    simp only [sumS, List.map_cons, List.map_nil, List.sum_cons, List.sum_nil, ByteArray.size_extract]; omega
  omega
theorem sumS_mem {xs : List ByteArray} {x : ByteArray} (h : x ∈ xs) : x.size ≤ sumS xs := by
  induction xs with
  | nil => simp at h
  | cons a r ih =>
    have e : sumS (a :: r) = a.size + sumS r := by simp [sumS]
    rcases List.mem_cons.1 h with rfl | h
    · omega
    · have := ih h; omega
theorem len_sum {xs : List ByteArray} (h : ∀ x ∈ xs, okV x = true) : xs.length ≤ sumS xs := by
  induction xs with
  | nil => simp
  | cons a r ih =>
    have e : sumS (a :: r) = a.size + sumS r := by simp [sumS]
    have h1 := ih fun x hx => h x (List.mem_cons_of_mem _ hx)
    have h2 : a.size ≠ 0 := fun h0 => by
      have h3 := h a (List.mem_cons_self ..)
      have : a = ⟨#[]⟩ := by
        apply ByteArray.ext
        exact Array.eq_empty_of_size_eq_zero h0
      rw [this, okV_nil] at h3; cases h3
    simp only [List.length_cons]; omega
def prs (s : ByteArray) : List ByteArray := splitL s ⟨#[32]⟩
noncomputable def okL (s : ByteArray) : Bool := (prs s).all okV && polyB ((prs s).map parV)
noncomputable def parL (s : ByteArray) : List V2 := if okL s then (prs s).map parV else []
theorem okL_no {s : ByteArray} {k : Nat} (hk : k < (prs s).length) (h : okV (prs s)[k] = false) : okL s = false ∧ parL s = [] := by
  have h1 : okL s = false := by
    unfold okL
    have : (prs s).all okV = false := by
      cases e : (prs s).all okV with
      | false => rfl
      | true => have := List.all_eq_true.1 e _ (List.getElem_mem hk); rw [this] at h; cases h
    rw [this]; rfl
  exact ⟨h1, by unfold parL; rw [h1]; rfl⟩
theorem okL_all {s : ByteArray} (h : ∀ x ∈ prs s, okV x = true) : okL s = polyB ((prs s).map parV) := by
  unfold okL; rw [List.all_eq_true.2 h]; rfl
theorem parL_no {s : ByteArray} (h : okL s = false) : parL s = [] := by unfold parL; rw [h]; rfl
theorem parL_ok {s : ByteArray} (h : okL s = true) : parL s = (prs s).map parV := by unfold parL; rw [h]; rfl
theorem prs_wf (xs : List ByteArray) : wfV (xs.map parV) := fun v hv => by
  obtain ⟨u, _, rfl⟩ := List.mem_map.1 hv; exact parV_wf u
theorem take_ok {xs : List ByteArray} {k : Nat} (h : k < xs.length) (h1 : ∀ x ∈ xs.take k, okV x = true) (h2 : okV xs[k] = true) : ∀ x ∈ xs.take (k + 1), okV x = true := by
  intro x hx
  rw [List.take_succ_eq_append_getElem h] at hx
  rcases List.mem_append.1 hx with hx | hx
  · exact h1 x hx
  · rw [List.mem_singleton.1 hx]; exact h2
theorem par_snoc {xs : List ByteArray} {k : Nat} (h : k < xs.length) : (xs.take (k + 1)).map parV = (xs.take k).map parV ++ [((parV xs[k]).1, (parV xs[k]).2)] := by
  rw [List.take_succ_eq_append_getElem h, List.map_append]; rfl
set_option maxRecDepth 100000 in
set_option maxHeartbeats 3200000 in
theorem impl_ParsePolygon (w : World) (s : ByteArray) (hm : s.size ≤ 1048576) (hPT : PowTab w) (hE : Sent w "strconv.ErrSyntax") (hR : Sent w "strconv.ErrRange") (ml : Int) (hML : w.cell? ⟨0, 0, none⟩ = some (.int .i64 ml)) (hg0 : 0 < w.heap.size) :
    Calls Tryz.prog 7 #[.string s] w fun e w' => ∃ v, e = .returned (.tuple #[v, .bool (okL s)]) ∧ OwnV w' w.heap.size w'.heap.size 26 v (parL s).length (parL s) ∧ Below w.heap.size w w' := by
  have PL := hPT.lt
  have GL := Tryz.gltS
  have HP := hide hPT
  have HE := hide hE
  have HR := hide hR
  have HML := hide hML
  clear hPT hE hR hML
  have hlen := splitL_len s ⟨#[32]⟩
  have hsum := sumS_splitL s ⟨#[32]⟩
  go_enter Tryz.func7, Tryz.ntmps7
  go_wp2_with fail
  refine (impl_SplitAny s ⟨#[32]⟩ w (by omega) (by decide)).mono ?_
  rintro e w1 ⟨v1, rfl, hown1, hb1⟩
  have hs1 := hb1.size
  have hE0 : w1.ownsRow w1.heap.size 26 2 (.slice none 0 0) 0 (fl []) := World.ownsRow_nil _ _ _ _
  rcases own_form hown1 with ⟨_, h0, _⟩ | ⟨g, c', rfl, hbg, hgl⟩
  · omega
  have hcells : ∀ (j : Nat) (hj : j < (prs s).length), w1.cell? ⟨g, j, none⟩ = some (.string (prs s)[j]) := fun j hj => by
    have hj' : j < (splitL s ⟨#[32]⟩).length := hj
    rw [hown1.cellAt j (by omega)]
    unfold sv
    rw [List.getElem?_map, List.getElem?_eq_getElem hj']; rfl
  have hsz : ∀ (j : Nat) (hj : j < (prs s).length), (prs s)[j].size ≤ 1048576 := fun j hj => Nat.le_trans (sumS_mem (List.getElem_mem hj)) (Nat.le_trans hsum hm)
  have HS : Hid (sumS (prs s) ≤ s.size) := hsum
  have hlen : 0 < (prs s).length ∧ (prs s).length ≤ s.size + 1 := hlen
  have hN : (splitL s ⟨#[32]⟩).length = (prs s).length := rfl
  rw [hN] at hown1 ⊢
  obtain ⟨N, hNN⟩ : ∃ N, N = (prs s).length := ⟨_, rfl⟩
  rw [← hNN] at hlen
  simp only [← hNN]
  have HNN := hide hNN
  clear hown1 hN hsum hNN
  go_wp2_with fail
  go_loopw [4, 12] (fun v i wr => ∃ k : Nat, k ≤ N ∧ i = .int .i64 k ∧ Hid (∀ x ∈ (prs s).take k, okV x = true) ∧ wr.ownsRow w1.heap.size 26 2 v k (fl (((prs s).take k).map parV)) ∧ Below w1.heap.size w1 wr) (fun _ i _ => N - (intOf i).toNat)
  case atStart => exact ⟨0, Nat.zero_le _, rfl, fun x hx => by simp at hx, by first | simpa using hE0 | simpa [fl] using hE0, by first | exact Below.refl _ _ | exact (Below.refl _ _).drew⟩
  case round =>
    clear hE0
    obtain ⟨k, hk, rfl, HOK, hown, hbel⟩ := hrel
    have hbs := hbel.size
    by_cases hlt : k < N
    · have hkl : k < (prs s).length := by have := HNN.out; omega
      have hc := keep1 hbel (ad := ⟨g, k, none⟩) hgl (hcells k hkl)
      have HSN := hide (par_snoc hkl)
      have HNO := hide (fun h => okL_no hkl h)
      have HYES := hide (fun h => take_ok hkl HOK.out h)
      have hz := hsz k hkl
      have HV := hide (fun (W : World) (hb : Below w.heap.size w W) => impl_ParseVec W (prs s)[k] hz (HP.out.below hb PL) (HE.out.below Tryz.gSyn hb (by have := hb.size; omega)) (HR.out.below Tryz.gRng hb (by have := hb.size; omega)) ml ((hb.cell hg0).trans HML.out) (Nat.lt_of_lt_of_le hg0 hb.size))
      generalize (prs s)[k] = x at *
      generalize okV x = ok at *
      generalize parV x = pv at *
      obtain ⟨x0, y0⟩ := pv
      simp only at HV HSN
      go_wp2_with fail
      refine (HV.out _ (hb1.trans (hbel.mono hs1))).mono ?_
      rintro e w2 ⟨rfl, hb2⟩
      have hs2 := hb2.size
      clear HV hc
      have hown2 := own_grown hown hb2
      have hbel2 := hbel.trans (hb2.mono hbs)
      obtain ⟨W0, hW0⟩ : ∃ W0, W0 = w2.alloc (.cells #[.int .i64 x0, .int .i64 y0] 26) := ⟨_, rfl⟩
      have ka : Box W0 w2.heap.size 26 #[.int .i64 x0, .int .i64 y0] := by rw [hW0]; exact Box.last _ _ _ rfl
      have hT : Below w2.heap.size w2 W0 := by rw [hW0]; exact below_new _ _
      go_upto_region 6 with fail
      rw [← hW0]
      clear hW0
      obtain ⟨ya0, ya1⟩ := ka.cells2
      have hown3 := own_grown hown2 hT
      have hbel3 := hbel2.trans (hT.mono hbel2.size)
      have hbs3 := hbel3.size
      clear hown hown2 hbel hbel2 hb2 hT
      cases ok with
      | false =>
        have HN := hide (HNO.out rfl)
        clear HNO HYES
        go_wp2_with fail
        go_ret2
        rw [HN.out.1, HN.out.2]
        refine ⟨_, rfl, OwnV.nil _ _ _ _, by first | exact hb1.trans (hbel3.mono hs1) | exact (hb1.trans (hbel3.mono hs1)).drew⟩
      | true =>
        have HY := hide (HYES.out rfl)
        clear HYES HNO
        go_wp2_with (at_builtin; refine wpList_append1 Tryz.sliceVec rfl _ _ rfl W0 (w1.heap.size) _ _ _ hown3 rfl #[.int .i64 x0, .int .i64 y0] 1 rfl rfl (by simp [Value.oneCell']) (by omega) (by omega) (by omega) ?_; intro v' w3 hown4 hb3)
        go_roundw
        case rel => exact ⟨k + 1, by omega, by go_num, HY.out, by rw [HSN.out, fl_append]; exact hown4, hbel3.trans (hb3.mono (by omega))⟩
        case measure => simp [intOf]; omega
    · obtain rfl : k = N := by omega
      have hNN := HNN.out
      have hall : ∀ x ∈ prs s, okV x = true := fun x hx => HOK.out x (by rw [List.take_of_length_le (by omega)]; exact hx)
      have e : ((prs s).take k).map parV = (prs s).map parV := by rw [List.take_of_length_le (by omega)]
      rw [e] at hown
      have hk20 : k ≤ 1048576 := by have h1 := len_sum hall; have h2 := HS.out; omega
      have HO := hide (okL_all hall)
      have hml : ((prs s).map parV).length = k := by rw [List.length_map]; omega
      have o := OwnV.of_row (own_lower hown (show w.heap.size ≤ w1.heap.size by omega)) (Nat.le_refl wr.heap.size)
      obtain ⟨A1, c1, rfl⟩ := o.form
      have HA := hide (fun (W : World) (hb : Below wr.heap.size wr W) => impl_IsPolygon W wr.heap.size hb.size A1 k c1 _ (And.intro hml (And.intro ((o.below hb (Nat.le_refl _)).rdB (Nat.le_refl _)) (And.intro hk20 (prs_wf _)))))
      clear hown e hcells hsz hNN
      go_wp2_with fail
      refine (HA.out _ (by first | exact Below.refl _ _ | exact (Below.refl _ _).drew)).mono ?_
      rintro e w2 ⟨rfl, hb2⟩
      have hb2 : Below wr.heap.size wr w2 := by first | exact hb2 | exact undrew hb2
      have o2 := (o.below hb2 (Nat.le_refl _)).wider (Nat.le_refl _) hb2.size
      have hbw := (hb1.trans (hbel.mono hs1)).trans (hb2.mono (by omega))
      clear HA o hb2
      rw [← HO.out]
      by_cases ev : okL s = true
      case neg =>
        have ev : okL s = false := by simpa using ev
        have HEV := hide (And.intro ev (parL_no ev))
        rw [ev]
        clear ev
        go_wp2_with fail
        go_ret2
        rw [HEV.out.1, HEV.out.2]
        exact ⟨_, rfl, OwnV.nil _ _ _ _, by first | exact hbw | exact hbw.drew⟩
      · have HEV := hide (And.intro ev (parL_ok ev))
        rw [ev]
        clear ev
        have HML2 := hide hml
        clear hml
        go_wp2_with fail
        go_ret2
        rw [HEV.out.1, HEV.out.2, HML2.out]
        exact ⟨_, rfl, o2, by first | exact hbw | exact hbw.drew⟩
end Go.Proofs.YtdagomikjblgiaaGreatDoor
