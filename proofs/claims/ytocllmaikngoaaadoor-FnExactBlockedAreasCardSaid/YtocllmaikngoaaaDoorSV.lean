/-
  The texts SortC, SortV, put together; each has its own heading below. No condition of ours.
-/
import Derived.Test.YtocllmaikngoaaaDoorHM
import Derived.Test.YtocllmaikngoaaaDoorIA
import Derived.Deep.RegionHeld3
import Derived.Sort.AtCall
import Derived.Test.YtocllmaikngoaaaDoorShelf
/-
  The program's order of vectors: contracts: cmp.Or, compareVecs.
-/




namespace Go.Proofs.YtocllmaikngoaaaDoor
open Go.RowKit Go.Sort
set_option linter.unusedVariables false
theorem impl_Or (w : World) (g : Nat) (a b : Int) (ha : w.cell? ⟨g, 0, none⟩ = some (.int .i64 a)) (hb : w.cell? ⟨g, 1, none⟩ = some (.int .i64 b)) :
    Calls Tryd.prog 85 #[.slice (some ⟨g, 0, none⟩) 2 2] w fun e w' => e = .returned (.int .i64 (if a = 0 then b else a)) ∧ w' = w := by
  by_cases h0 : a = 0
  · subst h0
    by_cases h1 : b = 0
    · subst h1
      go_enter Tryd.func85, Tryd.ntmps85
      go_wp2
      refine wp_loop_rounds 3 ?_
      rw [rounds_succ]
      go_wp2
      rw [rounds_succ]
      go_wp2
      rw [rounds_succ]
      go_wp2
      go_ret
      exact ⟨rfl, rfl⟩
    · have hz : (b != 0) = true := by simpa using h1
      go_enter Tryd.func85, Tryd.ntmps85
      go_wp2
      refine wp_loop_rounds 3 ?_
      rw [rounds_succ]
      go_wp2
      rw [rounds_succ]
      go_wp2
      go_ret
      exact ⟨rfl, rfl⟩
  · have hz : (a != 0) = true := by simpa using h0
    rw [if_neg h0]
    go_enter Tryd.func85, Tryd.ntmps85
    go_wp2
    refine wp_loop_rounds 3 ?_
    rw [rounds_succ]
    go_wp2
    go_ret
    exact ⟨rfl, rfl⟩
/-- first by X, then by Y -/
def cmp2 (a b : V2) : Int := if cmpV a.1 b.1 = 0 then cmpV a.2 b.2 else cmpV a.1 b.1
/-- w' is w with blocks laid behind it and draws made -/
def Grown (w w' : World) : Prop := ∃ q os, w' = grow (w.drewN q) os
theorem Grown.refl (w : World) : Grown w w := ⟨0, #[], by rw [grow_empty]; rfl⟩
theorem Grown.drew {w w' : World} (h : Grown w w') : Grown w w'.drew := by
  obtain ⟨q, os, rfl⟩ := h
  exact ⟨q + 1, os, rfl⟩
theorem Grown.alloc {w w' : World} (h : Grown w w') (o : Obj) : Grown w (w'.alloc o) := by
  obtain ⟨q, os, rfl⟩ := h
  exact ⟨q, os ++ #[o], by rw [alloc_eq_grow, grow_grow]⟩
set_option maxRecDepth 100000 in
set_option maxHeartbeats 1600000 in
theorem impl_compareVecs (w : World) (a b : V2) :
    Calls Tryd.prog 79 #[.agg #[.int .i64 a.1, .int .i64 a.2], .agg #[.int .i64 b.1, .int .i64 b.2]] w fun e w' => e = .returned (.int .i64 (cmp2 a b)) ∧ Grown w w' := by
  obtain ⟨x0, y0⟩ := a
  obtain ⟨x1, y1⟩ := b
  simp only
  have HC1 := hide (fun (W : World) => impl_Compare W x0 x1)
  have HC2 := hide (fun (W : World) => impl_Compare W y0 y1)
  have HV : Hid (cmp2 (x0, y0) (x1, y1) = if cmpV x0 x1 = 0 then cmpV y0 y1 else cmpV x0 x1) := rfl
  generalize cmpV x0 x1 = c1 at *
  generalize cmpV y0 y1 = c2 at *
  generalize cmp2 (x0, y0) (x1, y1) = V at HV ⊢
  obtain ⟨W0, hW0⟩ : ∃ W0, W0 = (w.alloc (.cells #[.int .i64 x0, .int .i64 y0] 31)).alloc (.cells #[.int .i64 x1, .int .i64 y1] 31) := ⟨_, rfl⟩
  have ka : Box W0 w.heap.size 31 #[.int .i64 x0, .int .i64 y0] := by rw [hW0]; exact (Box.last _ _ _ rfl).alloc _
  have kb : Box W0 (w.heap.size + 1) 31 #[.int .i64 x1, .int .i64 y1] := by rw [hW0]; exact Box.last _ _ _ (alloc_size _ _).symm
  have hG : Grown w W0 := by rw [hW0]; exact ((Grown.refl w).alloc _).alloc _
  go_enter Tryd.func79, Tryd.ntmps79
  go_upto_region 1 with fail
  rw [← hW0]
  clear hW0
  obtain ⟨ya0, ya1⟩ := ka.cells2
  obtain ⟨yb0, yb1⟩ := kb.cells2
  obtain ⟨W1, hW1⟩ : ∃ W1, W1 = (W0.alloc (.cells #[.int .i64 c1, .int .i64 c2] 3)).drew := ⟨_, rfl⟩
  have kq : Box (W0.alloc (.cells #[.int .i64 c1, .int .i64 c2] 3)) W0.heap.size 3 #[.int .i64 c1, .int .i64 c2] := Box.last _ _ _ rfl
  have HO := hide (impl_Or ((W0.alloc (.cells #[.int .i64 c1, .int .i64 c2] 3)).drew) W0.heap.size c1 c2 kq.cells2.1 kq.cells2.2)
  rw [← HV.out] at HO
  have HS : Hid (((W0.alloc (.cells #[.int .i64 c1, .int .i64 c2] 3)).drew).cell? ⟨w.heap.size, 0, none⟩ = some (.int .i64 x0) ∧ ((W0.alloc (.cells #[.int .i64 c1, .int .i64 c2] 3)).drew).cell? ⟨w.heap.size, 1, none⟩ = some (.int .i64 y0) ∧ ((W0.alloc (.cells #[.int .i64 c1, .int .i64 c2] 3)).drew).cell? ⟨w.heap.size + 1, 0, none⟩ = some (.int .i64 x1) ∧ ((W0.alloc (.cells #[.int .i64 c1, .int .i64 c2] 3)).drew).cell? ⟨w.heap.size + 1, 1, none⟩ = some (.int .i64 y1) ∧ Grown w ((W0.alloc (.cells #[.int .i64 c1, .int .i64 c2] 3)).drew)) :=
    ⟨(ka.alloc _).cells2.1, (ka.alloc _).cells2.2, (kb.alloc _).cells2.1, (kb.alloc _).cells2.2, (hG.alloc _).drew⟩
  go_region_held3 (fun w' => w'.cell? ⟨w.heap.size, 0, none⟩ = some (.int .i64 x0) ∧ w'.cell? ⟨w.heap.size, 1, none⟩ = some (.int .i64 y0) ∧ w'.cell? ⟨w.heap.size + 1, 0, none⟩ = some (.int .i64 x1) ∧ w'.cell? ⟨w.heap.size + 1, 1, none⟩ = some (.int .i64 y1) ∧ Grown w w')
    (first | (with_reducible exact HS.out) | exact ⟨ya0, ya1, yb0, yb1, hG.drew⟩ | exact HS.out)
    (first | (go_at_call 86; (first | (with_reducible refine Calls.mono (HC1.out _) ?_) | (with_reducible refine Calls.mono (HC2.out _) ?_)); rintro e w1 ⟨rfl, rfl⟩) | (go_at_call 85; refine Calls.mono HO.out ?_; rintro e w1 ⟨rfl, rfl⟩))
  have hG9 := HS.out.2.2.2.2
  go_wp2_with fail
  go_ret
  exact ⟨rfl, hG9⟩
end Go.Proofs.YtocllmaikngoaaaDoor

/-
  slices.SortFunc, slices.Reverse at lists of vectors of the call's own: by the library's contracts.
-/


namespace Go.Proofs.YtocllmaikngoaaaDoor
open Go.RowKit Go.Sort Go.Shelf Go.Lib
set_option linter.unusedVariables false
def encV (x : V2) : List Value := [.int .i64 x.1, .int .i64 x.2]
theorem flatK_fl (vs : List V2) : flatK encV 2 vs.toArray = (fl vs).toArray := by
  apply Array.ext
  · rw [size_flatK]; simp [fl_len]
  · intro t h1 h2
    have ht : t < vs.length * 2 := by rw [size_flatK] at h1; simpa using h1
    have hk : t / 2 < vs.length := by omega
    have e1 := get_flatK encV 2 vs.toArray t (by simpa using ht)
    rw [getElem!_pos _ t h1] at e1
    rw [e1]
    have e2 : vs.toArray[t / 2]! = vs[t / 2] := by rw [getElem!_pos _ _ (by simpa using hk)]; simp
    rw [e2]
    have hf := fl_at hk
    have hl : (fl vs).length = vs.length * 2 := fl_len vs
    rcases Nat.mod_two_eq_zero_or_one t with e | e
    · have et : t / 2 * 2 = t := by omega
      rw [et] at hf
      rw [e]
      have := (List.getElem?_eq_some_iff.1 hf.1).2
      simp only [List.getElem_toArray]
      exact this.symm
    · have et : t / 2 * 2 + 1 = t := by omega
      rw [et] at hf
      rw [e]
      have := (List.getElem?_eq_some_iff.1 hf.2).2
      simp only [List.getElem_toArray]
      exact this.symm
theorem holdsV {W : World} {lo g n c : Nat} {E : TypeId} {vs : List V2} (h : W.ownsRow lo E 2 (.slice (some ⟨g, 0, none⟩) n c) n (fl vs)) : HoldsK encV 2 W g 0 vs.toArray := by
  unfold HoldsK
  rw [flatK_fl]
  intro j hj
  have hj' : j < (fl vs).length := by simpa using hj
  have hl := h.1
  refine ⟨?_, h.frozenAt _⟩
  rw [Nat.zero_add, h.cellAt j (by omega), List.getElem?_eq_getElem hj', getElem!_pos _ j hj]
  simp
theorem putV {W : World} {lo g n c : Nat} {E : TypeId} {vs ss : List V2} (q : Nat) (os : Array Obj) (h : W.ownsRow lo E 2 (.slice (some ⟨g, 0, none⟩) n c) n (fl vs)) (hs : ss.length = n) :
    (grow (putRowK encV 2 (Sort.ahead W q) g 0 ss.toArray) os).ownsRow lo E 2 (.slice (some ⟨g, 0, none⟩) n c) n (fl ss) ∧ Aside g (g + 1) W (grow (putRowK encV 2 (Sort.ahead W q) g 0 ss.toArray) os) := by
  unfold putRowK
  rw [flatK_fl]
  have hfl : (fl ss).length = n * 2 := by rw [fl_len, hs]
  refine ⟨?_, rfl, rfl, rfl, by simp, fun k hk hne => ?_⟩
  · rcases h.2 with ⟨e0, _⟩ | ⟨g', cap', cur, e0, hb, hg, hn, hm, hsz, ht⟩
    · cases e0
    · injection e0 with e1 _ e3
      injection e1 with e1
      injection e1 with e1
      subst e1; subst e3
      have hgl : g < W.heap.size := (Array.getElem?_eq_some_iff.1 hg).1
      refine ⟨hfl, .inr ⟨g, c, putCells id 0 (fl ss).toArray cur, rfl, hb, ?_, hn, hm, by simpa [putCells] using hsz, ?_⟩⟩
      · rw [heap_grow_old _ _ (by simpa using hgl)]
        simp [putRow, mapBlock, Sort.ahead, Array.getElem?_modify, hg, onCells]
      · apply List.ext_getElem?
        intro j
        by_cases hj : j < n * 2
        · rw [List.getElem?_take_of_lt hj, Array.getElem?_toList]
          have hj2 : j < cur.size := by rw [hsz]; have := Nat.mul_le_mul_right 2 hn; omega
          have hj3 : j < (fl ss).length := by omega
          simp [putCells, hj2, hj3]
        · rw [List.getElem?_take_eq_none (by omega), List.getElem?_eq_none (by omega)]
  · rw [heap_grow_old _ _ (by simpa using hk)]
    have : g ≠ k := fun e => by omega
    simp [putRow, mapBlock, Sort.ahead, Array.getElem?_modify, this]
theorem cmp2_lt (x y : V2) : ltOf cmp2 x y = decide (lt2 x y) := by
  unfold ltOf
  rw [Bool.eq_iff_iff, decide_eq_true_iff, decide_eq_true_iff]
  have hv : ∀ a b : Int, cmpV a b < 0 ↔ a < b := fun a b => by
    have := @cmpV_neg a b
    rw [Bool.eq_iff_iff, decide_eq_true_iff, decide_eq_true_iff] at this
    exact this
  have h0 : ∀ a b : Int, cmpV a b = 0 ↔ a = b := fun a b => by
    unfold cmpV
    split
    · constructor
      · intro h; omega
      · intro h; omega
    · split
      · constructor
        · intro h; omega
        · intro h; omega
      · constructor
        · intro h; omega
        · intro h; omega
  unfold cmp2 lt2
  split
  · rename_i h
    rw [h0] at h
    rw [hv]
    omega
  · rename_i h
    rw [h0] at h
    rw [hv]
    omega
theorem swo2 : SWO (ltOf cmp2) where
  irrefl x := by rw [cmp2_lt]; simp [lt2]
  trans x y z h1 h2 := by rw [cmp2_lt, decide_eq_true_iff] at *; exact lt_trans h1 h2
  ntrans x y z h1 h2 := by
    rw [cmp2_lt, decide_eq_false_iff_not] at *
    intro h
    rcases lt_tri x y with k | k | k
    · exact h1 k
    · subst k; exact h2 h
    · exact h2 (lt_trans k h)
/-- not descending -/
def ascW (xs : List V2) : Prop := xs.Pairwise fun x y => ¬ lt2 y x
theorem msort_ok (vs : List V2) : ascW (vs.mergeSort fun x y => !(ltOf cmp2) y x) ∧ (vs.mergeSort fun x y => !(ltOf cmp2) y x).length = vs.length ∧ ∀ a, a ∈ (vs.mergeSort fun x y => !(ltOf cmp2) y x) ↔ a ∈ vs := by
  have hp := List.mergeSort_perm vs fun x y => !(ltOf cmp2) y x
  refine ⟨?_, hp.length_eq, fun a => hp.mem_iff⟩
  have hs := List.pairwise_mergeSort (le := fun x y => !(ltOf cmp2) y x) (fun a b c h1 h2 => by
    simp only [cmp2_lt, Bool.not_eq_true', decide_eq_false_iff_not] at *
    intro h
    rcases lt_tri c b with k | k | k
    · exact h2 k
    · subst k; exact h1 h
    · exact h1 (lt_trans k h)) (fun a b => by
    simp only [cmp2_lt, Bool.or_eq_true, Bool.not_eq_true', decide_eq_false_iff_not]
    by_cases h : lt2 b a
    · exact .inr fun k => lt_asymm h k
    · exact .inl h) vs
  refine hs.imp fun {a b} h => ?_
  simp only [cmp2_lt, Bool.not_eq_true', decide_eq_false_iff_not] at h
  exact h
set_option maxRecDepth 100000 in
theorem impl_Sort (W : World) (lo hi : Nat) (E : TypeId) (A : Option Addr) (n c : Nat) (vs : List V2) (o : OwnV W lo hi E (.slice A n c) n vs) (hn : n ≤ 1048576) :
    Calls Tryd.prog 78 #[.slice A n c, .func (.func 79) #[] #[]] W fun e w' => e = .returned (.tuple #[]) ∧ ∃ ss, OwnV w' lo hi E (.slice A n c) n ss ∧ ascW ss ∧ (∀ a, a ∈ ss ↔ a ∈ vs) ∧ Aside lo hi W w' := by
  have hlen := o.len
  rcases own_form o.1 with ⟨h1, rfl, _⟩ | ⟨g, c', h1, hbg, hg⟩
  · injection h1 with e1 e2 e3
    subst e1; subst e3
    have := AnyF.slices_SortFunc_none Tryd.sortVec none 0 (.func (.func 79) #[] #[]) W
    refine Calls.mono this ?_
    rintro e w' ⟨he, rfl⟩
    have hv : vs = [] := List.eq_nil_of_length_eq_zero hlen
    subst hv
    exact ⟨he, [], o, by simp [ascW], fun a => Iff.rfl, Aside.refl _⟩
  · injection h1 with e1 e2 e3
    subst e1; subst e3
    have hgh := o.2 g rfl
    have eg : ∀ args w, (callFunc 79 args).run Tryd.prog w = .ok (.enter 79 args) w := enters_of Tryd.func79 (by kernel_rfl) rfl
    have hc : CmpLays Tryd.prog 79 #[] encV 2 cmp2 g 0 vs.toArray.size W := fun _ _ _ _ x y => impl_compareVecs _ x y
    have hcon := AnyQ.slices_SortFunc_total Tryd.sortVec 2 Tryd.isAgg31 Tryd.sizeOf31 encV (fun _ => rfl) (fun x v hv => by simp [encV] at hv; rcases hv with rfl | rfl <;> rfl) cmp2 swo2 79 #[] g 0 c vs.toArray W eg hc (holdsV o.1) hg (by simp; omega) (fun x y a b => by
      rw [cmp2_lt, decide_eq_false_iff_not] at a b
      exact ((lt_tri x y).resolve_left a).resolve_right b)
    have e0 : vs.toArray.size = n := by simpa using hlen
    rw [e0] at hcon
    refine Calls.mono hcon ?_
    rintro e w' ⟨he, q, os, rfl⟩
    obtain ⟨m1, m2, m3⟩ := msort_ok vs
    obtain ⟨p1, p2⟩ := putV q os o.1 (m2.trans hlen)
    exact ⟨he, _, ⟨p1, o.2⟩, m1, m3, p2.wide (by omega) (by omega)⟩
theorem impl_Rev (W : World) (lo hi : Nat) (E : TypeId) (g n c : Nat) (vs : List V2) (o : OwnV W lo hi E (.slice (some ⟨g, 0, none⟩) n c) n vs) (hn : n ≤ 1048576) :
    Calls Tryd.prog 82 #[.slice (some ⟨g, 0, none⟩) n c] W fun e w' => e = .returned (.tuple #[]) ∧ OwnV w' lo hi E (.slice (some ⟨g, 0, none⟩) n c) n vs.reverse ∧ Aside lo hi W w' := by
  have hlen := o.len
  have hbg := (o.1.lt g rfl).1
  have hgh := o.2 g rfl
  have hcon := AnyQ.slices_Reverse Tryd.revVec 2 Tryd.isAgg31 Tryd.sizeOf31 encV (fun _ => rfl) (fun x v hv => by simp [encV] at hv; rcases hv with rfl | rfl <;> rfl) g 0 c vs.toArray W (holdsV o.1) (by simp; omega)
  have e0 : vs.toArray.size = n := by simpa using hlen
  rw [e0] at hcon
  refine Calls.mono hcon ?_
  rintro e w' ⟨he, q, rfl⟩
  obtain ⟨p1, p2⟩ := putV (ss := vs.reverse) q #[] o.1 (by simp [hlen])
  rw [grow_empty] at p1 p2
  have e1 : vs.toArray.reverse = vs.reverse.toArray := by simp
  rw [e1]
  exact ⟨he, ⟨p1, o.2⟩, p2.wide (by omega) (by omega)⟩
end Go.Proofs.YtocllmaikngoaaaDoor
