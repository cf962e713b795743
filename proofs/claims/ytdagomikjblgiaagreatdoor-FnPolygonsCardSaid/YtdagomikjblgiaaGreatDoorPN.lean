/-
  The texts PtN, TxtP, put together; each has its own heading below. No condition of ours.
-/
import Derived.Test.YtdagomikjblgiaaGreatDoorTX
import Derived.Test.YtdagomikjblgiaaGreatDoorRTU
import Derived.Test.YtdagomikjblgiaaGreatDoorPtM
import Derived.Test.YtdagomikjblgiaaGreatDoorNatD
import Derived.Test.YtdagomikjblgiaaGreatDoorBigR
import Derived.Test.YtdagomikjblgiaaGreatDoorRA
import Derived.Test.YtdagomikjblgiaaGreatDoorPB
import Derived.Test.YtdagomikjblgiaaGreatDoorBS
import Derived.Test.YtdagomikjblgiaaGreatDoorFX
import Derived.Test.YtdagomikjblgiaaGreatDoorPtQ
import Derived.Test.YtdagomikjblgiaaGreatDoorPolP
import Derived.Test.YtdagomikjblgiaaGreatDoorPolF
/-
  Points said of numbers: which point an operation makes, and that a text gives its vector, its point back.
-/



namespace Go.Proofs.YtdagomikjblgiaaGreatDoor
open Go.RowKit
set_option linter.unusedVariables false
/-- the fraction z over d, small -/
def IsS (Z : RQ) (z : Int) (d B : Nat) : Prop := IsR Z z d ∧ z.natAbs ≤ B ∧ d ≤ B
section
variable {Z Y : RQ} {z y : Int} {d e B C : Nat}
theorem IsS.dpos (h : IsS Z z d B) : 0 < d := h.1.dpos
theorem ab_mul {a b : Int} {B C : Nat} (h : a.natAbs ≤ B) (k : b.natAbs ≤ C) : (a * b).natAbs ≤ B * C := by rw [Int.natAbs_mul]; exact Nat.mul_le_mul h k
theorem IsS.add (h : IsS Z z d B) (k : IsS Y y e C) (hB : 2 * (B * C) < 1000000000 ^ 24) : IsS (addQ Z Y) (z * e + y * d) (d * e) (2 * (B * C)) := by
  obtain ⟨h1, h2, h3⟩ := h
  obtain ⟨k1, k2, k3⟩ := k
  have a1 : (z * (e : Int)).natAbs ≤ B * C := ab_mul h2 (by simpa using k3)
  have a2 : (y * (d : Int)).natAbs ≤ C * B := ab_mul k2 (by simpa using h3)
  rw [Nat.mul_comm C B] at a2
  have a3 : d * e ≤ B * C := Nat.mul_le_mul h3 k3
  rw [show addQ Z Y = lowR (z * e + y * d) (d * e) from addR_is h1 k1]
  exact ⟨isR (Nat.mul_pos h1.dpos k1.dpos) (by omega) (by omega), by omega, by omega⟩
end
section
variable {P Q R : PQ} {px py qx qy rx ry : Int} {pd pe qd qe rd re : Nat}
end
/-! ### texts -/
theorem no_comma {s : ByteArray} (h : cntC s = 0) : ∀ j (h : j < s.size), s[j] ≠ 44 := fun j hj e => by
  have := cnt_posC hj e; omega
theorem cut_join {a b : ByteArray} (h : cntC a = 0) : headBC ((a ++ ⟨#[44]⟩) ++ b) = a ∧ tailBC ((a ++ ⟨#[44]⟩) ++ b) = b := by
  have hn := no_comma h
  have hs : (a ++ ⟨#[44]⟩ ++ b).size = a.size + 1 + b.size := by rw [ByteArray.size_append, ByteArray.size_append]; rfl
  have hp : a.size < (a ++ ⟨#[44]⟩ ++ b).size := by omega
  have hsl : (a ++ (⟨#[44]⟩ : ByteArray)).size = a.size + 1 := by rw [ByteArray.size_append]; rfl
  obtain ⟨c1, c2, c3⟩ := cut_someC hp
    (by rw [ByteArray.getElem_append_left (by omega), ByteArray.getElem_append_right (by omega)]; simp only [Nat.sub_self]; rfl)
    (fun j hj hjp => by rw [ByteArray.getElem_append_left (by omega), ByteArray.getElem_append_left hjp]; exact hn j hjp)
  have e1 : (a ++ ⟨#[44]⟩ ++ b).extract 0 a.size = a := by
    apply ByteArray.ext; simp
  have e2 : (a ++ ⟨#[44]⟩ ++ b).extract (a.size + 1) (a ++ ⟨#[44]⟩ ++ b).size = b := by
    apply ByteArray.ext
    apply Array.ext'
    have l1 : (a.data.toList ++ [44]).length = a.size + 1 := by simp
    have l2 : (a ++ ⟨#[44]⟩ ++ b).size = (a.data.toList ++ [44] ++ b.data.toList).length := by rw [hs]; simp; omega
    show ((a ++ ⟨#[44]⟩ ++ b).extract (a.size + 1) (a ++ ⟨#[44]⟩ ++ b).size).data.toList = b.data.toList
    rw [l2]
    simp only [ByteArray.data_extract, ByteArray.data_append, Array.toList_extract, Array.toList_append, List.extract_eq_take_drop]
    rw [← l1, List.drop_left' rfl]
    exact List.take_of_length_le (by simp; omega)
  exact ⟨c1.trans e1, c2.trans e2⟩
theorem parse_fmtV {x y : Int} (h : vecB x y = true) : parV (fmtV x y) = (x, y) ∧ okV (fmtV x y) = true := by
  have hb : -1000 ≤ x ∧ x ≤ 1000 ∧ -1000 ≤ y ∧ y ≤ 1000 := by unfold vecB at h; simp at h; omega
  obtain ⟨a1, a2⟩ := parse_some (s := itoaB x) (n := x) (by omega) (by omega) rfl
  obtain ⟨b1, b2⟩ := parse_some (s := itoaB y) (n := y) (by omega) (by omega) rfl
  obtain ⟨c1, c2⟩ := cut_join (a := itoaB x) (b := itoaB y) (cntC_itoa _)
  have ho : okV (fmtV x y) = true := by rw [okV, fmtV_ok h, c1, c2, a1, b1, a2, b2, h]; rfl
  exact ⟨by rw [parV, ho, if_pos rfl, fmtV_ok h, c1, c2, a2, b2], ho⟩
end Go.Proofs.YtdagomikjblgiaaGreatDoor

/-
  A polygon's text, cut at its spaces: its corners' texts; the polygon is recovered.
-/



namespace Go.Proofs.YtdagomikjblgiaaGreatDoor
open Go.RowKit
set_option linter.unusedVariables false
theorem cut_oneP {c d : UInt8} : cutB ⟨#[c]⟩ (ByteArray.mk #[c]).size d = decide (c = d) := by
  unfold cutB
  apply decide_eq_decide.2
  constructor
  · rintro ⟨k, hk, _, h⟩
    have h1 : k < 1 := hk
    obtain rfl : k = 0 := by omega
    exact h
  · rintro rfl
    exact ⟨0, by show 0 < 1; omega, by show 0 < 1; omega, rfl⟩
theorem joinL_moreP (ps : List ByteArray) (x y z s : ByteArray) (h : z.data.toList = x.data.toList ++ y.data.toList) : joinL (ps ++ [z]) s = joinL (ps ++ [x]) s ++ y.data.toList := by
  by_cases hp : ps = []
  · subst hp; simp [joinL_one, h]
  · rw [joinL_snoc hp, joinL_snoc hp, h]; simp
theorem extract_snocP {s : ByteArray} {f i : Nat} (hf : f ≤ i) (hi : i < s.size) : (s.extract f (i + 1)).data.toList = (s.extract f i).data.toList ++ [s[i]] := by
  have hi' : i < s.data.toList.length := by rw [ba_size]; exact hi
  have e : s.data.toList.take (i + 1) = s.data.toList.take i ++ [s[i]] := by rw [List.take_succ_eq_append_getElem hi']; rfl
  rw [ByteArray.data_extract, ByteArray.data_extract, Array.toList_extract, Array.toList_extract, List.extract_eq_take_drop, List.extract_eq_take_drop, ← List.drop_take, ← List.drop_take, e, List.drop_append_of_le_length (by rw [List.length_take]; omega)]
theorem extract_emptyP (s : ByteArray) (i : Nat) : (s.extract i i).data.toList = [] := by rw [ByteArray.data_extract, Array.toList_extract, List.extract_eq_take_drop]; simp
/-- the pieces so far: they join to what was read, and none of them holds the byte -/
theorem pieces_both (s : ByteArray) (c : UInt8) : ∀ i, i ≤ s.size → joinL ((pieces s ⟨#[c]⟩ i).1 ++ [s.extract (pieces s ⟨#[c]⟩ i).2 i]) ⟨#[c]⟩ = s.data.toList.take i ∧ ∀ y ∈ (pieces s ⟨#[c]⟩ i).1 ++ [s.extract (pieces s ⟨#[c]⟩ i).2 i], c ∉ y.data.toList
  | 0, _ => by
    refine ⟨by simp [pieces, joinL_one], fun y hy => ?_⟩
    simp only [pieces, List.nil_append, List.mem_singleton] at hy
    subst hy
    rw [extract_emptyP]; simp
  | i + 1, hi => by
    obtain ⟨ih, ih2⟩ := pieces_both s c i (by omega)
    have hle := (pieces_le s ⟨#[c]⟩ i).1
    have hi' : i < s.data.toList.length := by rw [ba_size]; omega
    have ht : s.data.toList.take (i + 1) = s.data.toList.take i ++ [s[i]'(by omega)] := by rw [List.take_succ_eq_append_getElem hi']; rfl
    by_cases hc : c = s[i]'(by omega)
    · have h1 : cutB ⟨#[c]⟩ (ByteArray.mk #[c]).size (s[i]'(by omega)) = true := by rw [cut_oneP]; simp [hc]
      rw [pieces_cut (by omega) h1]
      refine ⟨?_, fun y hy => ?_⟩
      · rw [joinL_snoc (by simp), ih, ht]
        show _ ++ [c] ++ (s.extract (i + 1) (i + 1)).data.toList = _
        rw [extract_emptyP, hc]; simp
      · rcases List.mem_append.1 hy with h | h
        · exact ih2 y h
        · simp only [List.mem_singleton] at h
          subst h
          show c ∉ (s.extract (i + 1) (i + 1)).data.toList
          rw [extract_emptyP]; simp
    · have h1 : cutB ⟨#[c]⟩ (ByteArray.mk #[c]).size (s[i]'(by omega)) = false := by rw [cut_oneP]; simp [hc]
      rw [pieces_none (by omega) h1]
      refine ⟨?_, fun y hy => ?_⟩
      · rw [joinL_moreP _ (s.extract (pieces s ⟨#[c]⟩ i).2 i) ⟨#[s[i]'(by omega)]⟩ _ _ (extract_snocP hle (by omega)), ih, ht]
      · rcases List.mem_append.1 hy with h | h
        · exact ih2 y (List.mem_append_left _ h)
        · simp only [List.mem_singleton] at h
          subst h
          rw [extract_snocP hle (by omega)]
          intro hm
          rcases List.mem_append.1 hm with hm | hm
          · exact ih2 _ (List.mem_append_right _ (by simp)) hm
          · simp at hm; exact hc hm
theorem list_sep {c : UInt8} : ∀ (x y b d : List UInt8), c ∉ x → c ∉ y → x ++ c :: b = y ++ c :: d → x = y ∧ b = d := by
  intro x
  induction x with
  | nil =>
    intro y b d _ hy h
    match y with
    | [] => simp at h; exact ⟨rfl, h⟩
    | e :: y => simp at h; exact (hy (by rw [h.1]; simp)).elim
  | cons e x ih =>
    intro y b d hx hy h
    match y with
    | [] => simp at h; exact (hx (by rw [h.1]; simp)).elim
    | f :: y =>
      simp at h
      obtain ⟨h1, h2⟩ := ih y b d (fun k => hx (List.mem_cons_of_mem _ k)) (fun k => hy (List.mem_cons_of_mem _ k)) h.2
      exact ⟨by rw [h.1, h1], h2⟩
theorem tail_cons (c : UInt8) (z : List UInt8) (r : List (List UInt8)) : Lib.joinTail [c] (z :: r) = c :: (z ++ Lib.joinTail [c] r) := by simp [Lib.joinTail]
theorem tail_nil (c : UInt8) : Lib.joinTail [c] [] = [] := rfl
theorem tail_inj {c : UInt8} : ∀ (r r' : List (List UInt8)) (x y : List UInt8), c ∉ x → c ∉ y → (∀ z ∈ r, c ∉ z) → (∀ z ∈ r', c ∉ z) → x ++ Lib.joinTail [c] r = y ++ Lib.joinTail [c] r' → x = y ∧ r = r' := by
  intro r
  induction r with
  | nil =>
    intro r' x y hx hy _ _ h
    match r' with
    | [] => rw [tail_nil] at h; simp at h; exact ⟨h, rfl⟩
    | z :: r' =>
      rw [tail_nil, tail_cons, List.append_nil] at h
      exact (hx (by rw [h]; simp)).elim
  | cons z r ih =>
    intro r' x y hx hy hr hr' h
    match r' with
    | [] =>
      rw [tail_nil, tail_cons, List.append_nil] at h
      exact (hy (by rw [← h]; simp)).elim
    | z' :: r' =>
      rw [tail_cons, tail_cons] at h
      obtain ⟨h1, h2⟩ := list_sep _ _ _ _ hx hy h
      obtain ⟨h3, h4⟩ := ih r' z z' (hr z (by simp)) (hr' z' (by simp)) (fun k hk => hr k (List.mem_cons_of_mem _ hk)) (fun k hk => hr' k (List.mem_cons_of_mem _ hk)) h2
      exact ⟨h1, by rw [h3, h4]⟩
theorem ba_ext {a b : ByteArray} (h : a.data.toList = b.data.toList) : a = b := by
  cases a with | mk a => cases b with | mk b => simp at h; subst h; rfl
theorem map_data_inj : ∀ {xs ys : List ByteArray}, xs.map (·.data.toList) = ys.map (·.data.toList) → xs = ys := by
  intro xs
  induction xs with
  | nil => intro ys h; cases ys with | nil => rfl | cons y ys => simp at h
  | cons x xs ih =>
    intro ys h
    cases ys with
    | nil => simp at h
    | cons y ys =>
      simp only [List.map_cons, List.cons.injEq] at h
      rw [ba_ext h.1, ih h.2]
/-- cut at the byte that joined them -/
theorem split_join {c : UInt8} {xs : List ByteArray} (hne : xs ≠ []) (hc : ∀ x ∈ xs, c ∉ x.data.toList) : splitL (joinB xs ⟨#[c]⟩) ⟨#[c]⟩ = xs := by
  obtain ⟨h1, h2⟩ := pieces_both (joinB xs ⟨#[c]⟩) c (joinB xs ⟨#[c]⟩).size (Nat.le_refl _)
  rw [List.take_of_length_le (by rw [ba_size]; exact Nat.le_refl _)] at h1
  have e : (joinB xs ⟨#[c]⟩).data.toList = joinL xs ⟨#[c]⟩ := by simp [joinB]
  rw [e] at h1
  have h3 : joinL (splitL (joinB xs ⟨#[c]⟩) ⟨#[c]⟩) ⟨#[c]⟩ = joinL xs ⟨#[c]⟩ := h1
  have h4 : ∀ y ∈ splitL (joinB xs ⟨#[c]⟩) ⟨#[c]⟩, c ∉ y.data.toList := h2
  have hne2 : splitL (joinB xs ⟨#[c]⟩) ⟨#[c]⟩ ≠ [] := by unfold splitL; simp
  generalize splitL (joinB xs ⟨#[c]⟩) ⟨#[c]⟩ = ys at *
  match xs, ys, hne, hne2 with
  | x :: xs, y :: ys, _, _ =>
    unfold joinL at h3
    rw [List.map_cons, List.map_cons, Lib.join_cons, Lib.join_cons] at h3
    obtain ⟨k1, k2⟩ := tail_inj (c := c) _ _ _ _ (h4 y (by simp)) (hc x (by simp)) (fun z hz => by obtain ⟨u, hu, rfl⟩ := List.mem_map.1 hz; exact h4 u (List.mem_cons_of_mem _ hu)) (fun z hz => by obtain ⟨u, hu, rfl⟩ := List.mem_map.1 hz; exact hc u (List.mem_cons_of_mem _ hu)) h3
    rw [ba_ext k1, map_data_inj k2]
theorem no_space_itoa (n : Int) : (32 : UInt8) ∉ (itoaB n).data.toList := by
  rw [itoaB_data]
  have hd : ∀ k, (32 : UInt8) ∉ Lib.decDigits k := fun k hm => by
    have := dec_digit k 32 hm
    exact absurd this.1 (by decide)
  unfold Lib.itoa
  split
  · intro h
    rcases List.mem_cons.1 h with h | h
    · exact absurd h (by decide)
    · exact hd _ h
  · exact hd _
theorem no_space_fmt (v : V2) : (32 : UInt8) ∉ (fmtV2 v).data.toList := by
  unfold fmtV2
  by_cases h : vecB v.1 v.2 = true
  · rw [fmtV_ok h]
    intro hm
    simp only [ByteArray.data_append, Array.toList_append, List.mem_append] at hm
    rcases hm with (hm | hm) | hm
    · exact no_space_itoa _ hm
    · simp at hm
    · exact no_space_itoa _ hm
  · have h : vecB v.1 v.2 = false := by simpa using h
    rw [fmtV_no h]; simp
theorem mem_atT {l : List V2} {x : V2} (h : x ∈ l) : ∃ i, i < l.length ∧ atV l i = x := by
  obtain ⟨i, hi, e⟩ := List.getElem_of_mem h
  exact ⟨i, hi, by rw [atV_eq hi, e]⟩
/-- the polygon whose text it is -/
theorem par_fmtL {l : List V2} (h : polyP l) : okL (fmtL l) = true ∧ parL (fmtL l) = l := by
  have hB := polyB_iff.2 h
  have hne : l.map fmtV2 ≠ [] := by
    intro e
    have h3 := h.1
    rw [← List.length_map (f := fmtV2), e] at h3
    simp at h3
  have hp : prs (fmtL l) = l.map fmtV2 := by
    unfold prs
    rw [fmtL_ok hB]
    exact split_join hne fun x hx => by obtain ⟨v, hv, rfl⟩ := List.mem_map.1 hx; exact no_space_fmt v
  have hv : ∀ v ∈ l, vecB v.1 v.2 = true := fun v hv => by obtain ⟨i, hi, rfl⟩ := mem_atT hv; exact poly_vec h hi
  have hm : (l.map fmtV2).map parV = l := by
    rw [List.map_map]
    conv => rhs; rw [← List.map_id l]
    exact List.map_congr_left fun v hv' => (parse_fmtV (hv v hv')).1
  have hok : okL (fmtL l) = true := by
    unfold okL
    rw [hp, hm, hB, Bool.and_true]
    exact List.all_eq_true.2 fun x hx => by obtain ⟨v, hv', rfl⟩ := List.mem_map.1 hx; exact (parse_fmtV (hv v hv')).2
  exact ⟨hok, by rw [parL_ok hok, hp, hm]⟩
theorem fmtL_size {l : List V2} (h : l.length ≤ 16) : (fmtL l).size ≤ 1048576 := by
  cases e : polyB l with
  | false => rw [fmtL_no e]; show 0 ≤ 1048576; omega
  | true =>
    rw [fmtL_ok e]
    have hs := sumS_fmt l
    have hj : (joinB (l.map fmtV2) ⟨#[32]⟩).size = (joinL (l.map fmtV2) ⟨#[32]⟩).length := by rw [← ba_size]; simp [joinB]
    rw [hj]
    match l, h, hs with
    | [], _, _ => simp [joinL_nil]
    | v :: r, h, hs =>
      have h3 : Lib.lens ((r.map fmtV2).map (·.data.toList)) = sumS (r.map fmtV2) := by
        simp only [Lib.lens, sumS, List.map_map]
        congr 1
      have h4 : sumS ((v :: r).map fmtV2) = (fmtV2 v).size + sumS (r.map fmtV2) := by simp [sumS]
      rw [joinL, List.map_cons, List.map_cons, Lib.join_cons, List.length_append, Lib.joinTail_length, ba_size, h3, List.length_map, List.length_map]
      have h5 : (⟨#[32]⟩ : ByteArray).data.toList.length = 1 := rfl
      rw [h5]
      rw [h4] at hs
      simp only [List.length_cons] at h hs
      omega
end Go.Proofs.YtdagomikjblgiaaGreatDoor
