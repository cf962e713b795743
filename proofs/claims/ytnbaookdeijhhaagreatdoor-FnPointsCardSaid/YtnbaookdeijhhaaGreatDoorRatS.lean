/-
  Fractions as text: FormatRat: both sides' contracts.
-/
import Derived.Test.YtnbaookdeijhhaaGreatDoorRK
import Derived.Test.YtnbaookdeijhhaaGreatDoorRL
import Derived.Test.YtnbaookdeijhhaaGreatDoorBigS
import Derived.Test.YtnbaookdeijhhaaGreatDoorSJ
import Derived.Deep.RegionHeld3
import Derived.Deep.RegionWith
import Derived.Sort.AtCall
namespace Go.Proofs.YtnbaookdeijhhaaGreatDoor
open Go.RowKit
set_option linter.unusedVariables false
def fmtR (s : Bool) (xs ds : List Int) : ByteArray := if ratB s xs ds then (if ds = [1] then fmtZ s xs else (fmtZ s xs ++ ⟨#[47]⟩) ++ fmtB ds) else ⟨#[]⟩
theorem fmtR_no {s : Bool} {xs ds : List Int} (h : ratB s xs ds = false) : fmtR s xs ds = ⟨#[]⟩ := by rw [fmtR, h]; rfl
theorem fmtR_one {s : Bool} {xs ds : List Int} (h : ratB s xs ds = true) (h1 : ds = [1]) : fmtR s xs ds = fmtZ s xs := by rw [fmtR, h, if_pos rfl, if_pos h1]
theorem fmtR_two {s : Bool} {xs ds : List Int} (h : ratB s xs ds = true) (h1 : ¬ ds = [1]) : fmtR s xs ds = (fmtZ s xs ++ ⟨#[47]⟩) ++ fmtB ds := by rw [fmtR, h, if_pos rfl, if_neg h1]
theorem fmtZ_sizeR {s : Bool} {xs : List Int} (h : bigB s xs = true) : (fmtZ s xs).size ≤ 1000 := by
  have hs := fmtB_size (bigB_nat h)
  cases s
  · rw [fmtZ_pos h]; omega
  · rw [fmtZ_neg h, ByteArray.size_append]
    show 1 + (fmtB xs).size ≤ _
    omega
theorem fmtB_sizeR {xs : List Int} (h : natB xs = true) : (fmtB xs).size ≤ 1000 := by
  have hs := fmtB_size h
  omega
theorem join_two (x y : ByteArray) : joinB [x, y] ⟨#[47]⟩ = (x ++ ⟨#[47]⟩) ++ y := by
  have h := joinL_snoc (xs := [x]) (by simp) y ⟨#[47]⟩
  rw [List.singleton_append, joinL_one] at h
  apply ByteArray.ext
  show (joinL [x, y] ⟨#[47]⟩).toArray = _
  rw [h]
  simp
theorem sum_two (x y : ByteArray) : sumS [x, y] = x.size + y.size := by simp [sumS]
theorem two_cells (w : World) (E : TypeId) (x y : ByteArray) : ∀ (j : Nat) z, ([x, y] : List ByteArray)[j]? = some z → (w.alloc (.cells #[.string x, .string y] E)).cell? ⟨w.heap.size, 0 + j, none⟩ = some (.string z) := fun j z hz => by
  rw [Nat.zero_add, (Box.last w E #[.string x, .string y] rfl).cell j]
  match j, hz with
  | 0, hz => simp at hz; subst hz; rfl
  | 1, hz => simp at hz; subst hz; rfl
  | j + 2, hz => simp at hz
set_option maxRecDepth 100000 in
set_option maxHeartbeats 3200000 in
theorem impl_FormatRat (w : World) (B : Nat) (hB : B ≤ w.heap.size) (s : Bool) (A : Option Addr) (n c : Nat) (xs : List Int) (Rx : RdI w B A n xs) (D : Option Addr) (m k : Nat) (ds : List Int) (Rd' : RdI w B D m ds) (hPT : PowTab w) :
    Calls Tryz.prog 9 #[.agg #[.bool s, .slice A n c, .slice D m k]] w fun e w' => e = .returned (.string (fmtR s xs ds)) ∧ Below w.heap.size w w' := by
  have HNO := hide (fmtR_no (s := s) (xs := xs) (ds := ds))
  have H1 := hide (fmtR_one (s := s) (xs := xs) (ds := ds))
  have H2 := hide (fmtR_two (s := s) (xs := xs) (ds := ds))
  generalize fmtR s xs ds = Z at HNO H1 H2 ⊢
  obtain ⟨W0, hW0⟩ : ∃ W0, W0 = (w.alloc (.cells #[.bool s, .slice A n c, .slice D m k] 27)) := ⟨_, rfl⟩
  have hb0 : Below w.heap.size w W0 := by rw [hW0]; exact below_new _ _
  have kx : Box W0 (w.heap.size) 27 #[.bool s, .slice A n c, .slice D m k] := by rw [hW0]; exact Box.last _ _ _ rfl
  have hs0 : W0.heap.size = w.heap.size + 1 := by rw [hW0, alloc_size]
  go_enter Tryz.func9, Tryz.ntmps9
  go_upto_region 1 with fail
  rw [← hW0]
  clear hW0
  obtain ⟨a0, a1, a2⟩ := kx.cells3
  go_wp2_with fail
  refine (impl_ratValid W0 B (by omega) s A n c xs (Rx.below (hb0.mono hB)) D m k ds (Rd'.below (hb0.mono hB))).mono ?_
  rintro e w1 ⟨rfl, hb1⟩
  have kx1 := kx.below hb1 kx.lt
  have hs1 := hb1.size
  have hb1' := below_then hb0 hb1
  clear a0 a1 a2 kx hb0 hb1
  by_cases hr : ratB s xs ds = true
  · rw [hr]
    obtain ⟨a0, a1, a2⟩ := kx1.cells3
    have hzx := fmtZ_sizeR (ratB_big hr)
    have hzd := fmtB_sizeR (ratB_den hr)
    go_wp2_with fail
    refine (impl_isOne w1 B (by omega) D m k ds (Rd'.below (hb1'.mono hB))).mono ?_
    rintro e w2 ⟨rfl, rfl⟩
    by_cases hone : ds = [1]
    · have hd : decide (ds = [1]) = true := decide_eq_true hone
      rw [hd]
      have hz := H1.out hr hone
      subst hz
      have HCP := hide (impl_FormatBigInt w1 B (by omega) s A n c xs (Rx.below (hb1'.mono hB)) (hPT.below hb1' hPT.lt))
      clear HNO H1 H2 hone hd hr hzx hzd
      go_wp2_with fail
      refine HCP.out.mono ?_
      rintro e w3 ⟨rfl, hb3⟩
      have hb3' := below_then hb1' hb3
      go_wp2_with fail
      go_ret
      exact ⟨rfl, hb3'⟩
    · have hd : decide (ds = [1]) = false := decide_eq_false hone
      rw [hd]
      have hz := H2.out hr hone
      subst hz
      have HX := hide kx1
      have RX := Rx.below (hb1'.mono hB)
      have RD := Rd'.below (hb1'.mono hB)
      have hs0' := hb1'.size
      have HC1 := hide (fun (W : World) (h : Below w1.heap.size w1 W) => impl_FormatBigInt W B (by have := h.size; omega) s A n c xs (RX.below (h.mono (by omega))) ((hPT.below hb1' hPT.lt).below h (by have := hPT.lt; omega)))
      have HC2 := hide (fun (W : World) (h : Below w1.heap.size w1 W) => impl_FormatNat W B (by have := h.size; omega) D m k ds (RD.below (h.mono (by omega))) ((hPT.below hb1' hPT.lt).below h (by have := hPT.lt; omega)))
      have HE := hide (join_two (fmtZ s xs) (fmtB ds)).symm
      have HSZ := hide (sum_two (fmtZ s xs) (fmtB ds))
      clear HNO H1 H2 hone hd hr RX RD kx1
      have HKS := hide (fun (W : World) (hq : Below w1.heap.size w1 W) => (⟨(HX.out.below hq HX.out.lt).cell 0, (HX.out.below hq HX.out.lt).cell 1, (HX.out.below hq HX.out.lt).cell 2⟩ : W.cell? ⟨w.heap.size, 0, none⟩ = some (.bool s) ∧ W.cell? ⟨w.heap.size, 1, none⟩ = some (.slice A n c) ∧ W.cell? ⟨w.heap.size, 2, none⟩ = some (.slice D m k)))
      have HS0 : Hid (Below w1.heap.size w1 w1.drew) := (Below.refl _ _).drew
      have HCJ := hide (fun (W : World) (g : Nat) (hc : ∀ (j : Nat) x, ([fmtZ s xs, fmtB ds] : List ByteArray)[j]? = some x → W.cell? ⟨g, 0 + j, none⟩ = some (.string x)) (hg : g < W.heap.size) => joinWith_any g 2 2 [fmtZ s xs, fmtB ds] ⟨#[47]⟩ W rfl (Nat.le_refl _) hc hg (by omega) (join_bound _ _ (by show 2 ≤ _; omega) (by rw [HSZ.out]; omega) (by show 1 ≤ _; omega)))
      clear hzx hzd
      go_wp2_with fail
      go_region_held3 (fun w' => w'.cell? ⟨w.heap.size, 0, none⟩ = some (.bool s) ∧ w'.cell? ⟨w.heap.size, 1, none⟩ = some (.slice A n c) ∧ w'.cell? ⟨w.heap.size, 2, none⟩ = some (.slice D m k))
          (first | (with_reducible exact HKS.out _ HS3.out) | (with_reducible exact HKS.out _ (below_alloc HS2.out _)) | (with_reducible exact HKS.out _ HS2.out) | (with_reducible exact HKS.out _ HS1.out) | (with_reducible exact HKS.out _ HS0.out))
          (first
            | (go_at_call 44; refine (HC1.out _ HS0.out).mono ?_; rintro e w3 ⟨rfl, hb1⟩; have HS1 := hide (below_then HS0.out hb1))
            | (go_at_call 46; refine (HC2.out _ HS1.out).mono ?_; rintro e w4 ⟨rfl, hb2⟩; have HS2 := hide (below_then HS1.out hb2))
            | (go_at_call 45; refine (HCJ.out (w4.alloc (.cells #[.string (fmtZ s xs), .string (fmtB ds)] 9)) w4.heap.size (two_cells w4 _ _ _) (by rw [alloc_size]; omega)).mono ?_; rintro e w5 ⟨rfl, hb3⟩; have HS3 := hide (below_then (below_alloc HS2.out _) hb3)))
      have hb5' := below_then hb1' HS3.out
      go_wp2_with fail
      go_ret
      exact ⟨ret_string HE.out.symm, hb5'⟩
  · have hr : ratB s xs ds = false := by simpa using hr
    have hz := HNO.out hr
    subst hz
    rw [hr]
    clear HNO H1 H2
    go_wp2_with fail
    go_ret
    exact ⟨rfl, hb1'⟩
end Go.Proofs.YtnbaookdeijhhaaGreatDoor
