/-
  Big integers in range: the operations said of numbers, and that a text gives its number back.
-/
import Derived.Test.YtapjblghnflekaaDoorG2
import Derived.Test.YtapjblghnflekaaDoorBigS
import Derived.Test.YtapjblghnflekaaDoorFmtN2
namespace Go.Proofs.YtapjblghnflekaaDoor
open Go.RowKit
set_option linter.unusedVariables false

def inR (z : Int) : Prop := z.natAbs < 1000000000 ^ 60
theorem capZ_in {z : Int} (h : inR z) : capZ z = (decide (z < 0), limbs z.natAbs) := by
  rw [capZ, capL_of h]
  by_cases hz : z < 0
  · have hne : (limbs z.natAbs).isEmpty = false := by
      have : limbs z.natAbs ≠ [] := fun e => by have := limbs_nil.1 e; omega
      simpa using this
    rw [hne, decide_eq_true hz]; rfl
  · rw [decide_eq_false hz]; rfl
theorem zv_cap {z : Int} (h : inR z) : zv (capZ z).1 (capZ z).2 = z := by
  rw [capZ_in h]
  show zv (decide (z < 0)) (limbs z.natAbs) = z
  unfold zv
  rw [val_limbs]
  by_cases hz : z < 0
  · rw [decide_eq_true hz]; simp; omega
  · rw [decide_eq_false hz]; simp; omega
theorem bigB_cap {z : Int} (h : inR z) : bigB (capZ z).1 (capZ z).2 = true := by
  rw [capZ_in h]
  show bigB (decide (z < 0)) (limbs z.natAbs) = true
  rw [bigB, natB_limbs h]
  by_cases hz : z < 0
  · have hne : (limbs z.natAbs).isEmpty = false := by
      have : limbs z.natAbs ≠ [] := fun e => by have := limbs_nil.1 e; omega
      simpa using this
    rw [hne]; simp
  · rw [decide_eq_false hz]; rfl
theorem addZ_cap {a b : Int} (ha : inR a) (hb : inR b) : addZ (capZ a).1 (capZ a).2 (capZ b).1 (capZ b).2 = capZ (a + b) := by
  rw [addZ, bigB_cap ha, bigB_cap hb, zv_cap ha, zv_cap hb]; rfl
theorem subZ_cap {a b : Int} (ha : inR a) (hb : inR b) : subZ (capZ a).1 (capZ a).2 (capZ b).1 (capZ b).2 = capZ (a - b) := by
  rw [subZ, bigB_cap ha, bigB_cap hb, zv_cap ha, zv_cap hb]; rfl
theorem mulZ_cap {a b : Int} (ha : inR a) (hb : inR b) : mulZ (capZ a).1 (capZ a).2 (capZ b).1 (capZ b).2 = capZ (a * b) := by
  rw [mulZ, bigB_cap ha, bigB_cap hb, zv_cap ha, zv_cap hb]; rfl
theorem cmpZ_cap {a : Int} (ha : inR a) : cmpZ (capZ a).1 (capZ a).2 (capZ a).1 (capZ a).2 = 0 := by
  rw [cmpZ, bigB_cap ha]
  exact cmpV_eq _
theorem natB_cap {z : Int} (h : inR z) : natB (capZ z).2 = true := bigB_nat (bigB_cap h)
theorem signB_digs {t : ByteArray} (h : parseB t = true) : signB t = false := by
  unfold parseB at h
  simp only [Bool.and_eq_true, decide_eq_true_eq] at h
  obtain ⟨h0, hd⟩ := digs_all h.1.1
  rw [signB, dif_pos h0]
  have := hd 0 h0
  by_cases he : t[0] = 45
  · rw [he] at this; exact absurd this (by decide)
  · simpa using he
theorem minus_cut (t : ByteArray) : ((⟨#[45]⟩ : ByteArray) ++ t).extract 1 ((⟨#[45]⟩ : ByteArray) ++ t).size = t := by
  apply WideShapes.bytes_inj
  rw [ByteArray.data_extract, Array.toList_extract, List.extract_eq_take_drop, Joins.data_append]
  have hs : ((⟨#[45]⟩ : ByteArray) ++ t).size = 1 + t.size := by rw [ByteArray.size_append]; rfl
  rw [hs]
  show List.take (1 + t.size - 1) (List.drop 1 ([45] ++ t.data.toList)) = _
  rw [List.singleton_append, List.drop_one, List.tail_cons]
  exact List.take_of_length_le (by have : t.data.toList.length = t.size := rfl; omega)
theorem minus_sign (t : ByteArray) : signB ((⟨#[45]⟩ : ByteArray) ++ t) = true := by
  have hs : 0 < ((⟨#[45]⟩ : ByteArray) ++ t).size := by rw [ByteArray.size_append]; show 0 < 1 + t.size; omega
  rw [signB, dif_pos hs]
  have : ((⟨#[45]⟩ : ByteArray) ++ t)[0] = 45 := by
    rw [ByteArray.getElem_append_left (by show 0 < 1; omega)]; rfl
  rw [this]; rfl
theorem parse_fmtZ {s : Bool} {xs : List Int} (h : bigB s xs = true) : parseZ (fmtZ s xs) = (s, xs) ∧ parseZB (fmtZ s xs) = true := by
  have hn := bigB_nat h
  obtain ⟨hp, hq⟩ := parse_fmt hn
  cases s
  · have hf := fmtZ_pos h
    have hsg := signB_digs hp
    have hr : restB (fmtB xs) = fmtB xs := by rw [restB, hsg]; rfl
    have hz : parseZB (fmtB xs) = true := by rw [parseZB, hsg, hr, hp]; rfl
    rw [hf]
    exact ⟨by rw [parseZ, if_pos hz, hsg, hr, hq], hz⟩
  · have hf := fmtZ_neg h
    have hsg := minus_sign (fmtB xs)
    have hr : restB ((⟨#[45]⟩ : ByteArray) ++ fmtB xs) = fmtB xs := by rw [restB, if_pos hsg, minus_cut]
    have he : xs.isEmpty = false := by unfold bigB at h; rw [hn] at h; simpa using h
    have hz : parseZB ((⟨#[45]⟩ : ByteArray) ++ fmtB xs) = true := by rw [parseZB, hsg, hr, hp, hq, he]; rfl
    rw [hf]
    exact ⟨by rw [parseZ, if_pos hz, hsg, hr, hq], hz⟩
theorem fmtZ_size {s : Bool} {xs : List Int} (h : bigB s xs = true) : (fmtZ s xs).size ≤ 541 := by
  have hs := fmtB_size (bigB_nat h)
  cases s
  · rw [fmtZ_pos h]; omega
  · rw [fmtZ_neg h, ByteArray.size_append]
    show 1 + (fmtB xs).size ≤ 541
    omega
theorem inR_of {z : Int} (h : z.natAbs < 1000000000000000000000000000000000000000000000000000000000000000000000000000000) : inR z := Nat.lt_trans h (by decide)
end Go.Proofs.YtapjblghnflekaaDoor
