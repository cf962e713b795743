/-
  The texts BigN, BigD, put together; each has its own heading below. No condition of ours.
-/
import Derived.Test.YtnbaookdeijhhaaGreatDoorBigQ
import Derived.Test.YtnbaookdeijhhaaGreatDoorPB
import Derived.Test.YtnbaookdeijhhaaGreatDoorBigS
import Derived.Test.YtnbaookdeijhhaaGreatDoorFX
import Derived.Test.YtnbaookdeijhhaaGreatDoorNatD
import Derived.Test.YtnbaookdeijhhaaGreatDoorBQR
/-
  Big integers in range: the operations said of numbers, and that a text gives its number back.
-/




namespace Go.Proofs.YtnbaookdeijhhaaGreatDoor
open Go.RowKit
set_option linter.unusedVariables false

def inR (z : Int) : Prop := z.natAbs < 1000000000 ^ 60
theorem capZ_in {z : Int} (h : inR z) : capZ z = (decide (z < 0), limbs z.natAbs) := by
  rw [capZ, capL_of h]
  by_cases hz : z < 0
  · have hne : (limbs z.natAbs).isEmpty = false := by
      have : limbs z.natAbs ≠ [] := fun e => by have := limbs_nil.1 e; omega
      simpa using this
    rw [hne, decide_eq_true hz]; rfl
  · rw [decide_eq_false hz]; rfl
theorem signB_digs {t : ByteArray} (h : parseB t = true) : signB t = false := by
  unfold parseB at h
  simp only [Bool.and_eq_true, decide_eq_true_eq] at h
  obtain ⟨h0, hd⟩ := digs_all h.1.1
  rw [signB, dif_pos h0]
  have := hd 0 h0
  by_cases he : t[0] = 45
  · rw [he] at this; exact absurd this (by decide)
  · simpa using he
theorem minus_cut (t : ByteArray) : ((⟨#[45]⟩ : ByteArray) ++ t).extract 1 ((⟨#[45]⟩ : ByteArray) ++ t).size = t := by
  apply WideShapes.bytes_inj
  rw [ByteArray.data_extract, Array.toList_extract, List.extract_eq_take_drop, Joins.data_append]
  have hs : ((⟨#[45]⟩ : ByteArray) ++ t).size = 1 + t.size := by rw [ByteArray.size_append]; rfl
  rw [hs]
  show List.take (1 + t.size - 1) (List.drop 1 ([45] ++ t.data.toList)) = _
  rw [List.singleton_append, List.drop_one, List.tail_cons]
  exact List.take_of_length_le (by have : t.data.toList.length = t.size := rfl; omega)
theorem minus_sign (t : ByteArray) : signB ((⟨#[45]⟩ : ByteArray) ++ t) = true := by
  have hs : 0 < ((⟨#[45]⟩ : ByteArray) ++ t).size := by rw [ByteArray.size_append]; show 0 < 1 + t.size; omega
  rw [signB, dif_pos hs]
  have : ((⟨#[45]⟩ : ByteArray) ++ t)[0] = 45 := by
    rw [ByteArray.getElem_append_left (by show 0 < 1; omega)]; rfl
  rw [this]; rfl
theorem parse_fmtZ {s : Bool} {xs : List Int} (h : bigB s xs = true) : parseZ (fmtZ s xs) = (s, xs) ∧ parseZB (fmtZ s xs) = true := by
  have hn := bigB_nat h
  obtain ⟨hp, hq⟩ := parse_fmt hn
  cases s
  · have hf := fmtZ_pos h
    have hsg := signB_digs hp
    have hr : restB (fmtB xs) = fmtB xs := by rw [restB, hsg]; rfl
    have hz : parseZB (fmtB xs) = true := by rw [parseZB, hsg, hr, hp]; rfl
    rw [hf]
    exact ⟨by rw [parseZ, if_pos hz, hsg, hr, hq], hz⟩
  · have hf := fmtZ_neg h
    have hsg := minus_sign (fmtB xs)
    have hr : restB ((⟨#[45]⟩ : ByteArray) ++ fmtB xs) = fmtB xs := by rw [restB, if_pos hsg, minus_cut]
    have he : xs.isEmpty = false := by unfold bigB at h; rw [hn] at h; simpa using h
    have hz : parseZB ((⟨#[45]⟩ : ByteArray) ++ fmtB xs) = true := by rw [parseZB, hsg, hr, hp, hq, he]; rfl
    rw [hf]
    exact ⟨by rw [parseZ, if_pos hz, hsg, hr, hq], hz⟩
end Go.Proofs.YtnbaookdeijhhaaGreatDoor

/-
  The laws' big integers: what the reference's draws make.
-/



namespace Go.Proofs.YtnbaookdeijhhaaGreatDoor
open Go.RowKit
set_option linter.unusedVariables false

set_option maxHeartbeats 400000 in
theorem l01Once_any (G n c m : Nat) (A : Option Addr) (B : Nat) (w : World) (hn : n ≤ 1099511627776) (hm : 1 ≤ m) (hm2 : m ≤ 1000000000000) (hc : CurAt w G A n c) (hb : Bytes w B A n) (hB : B ≤ G) :
    Calls Tryz.prog 105 #[.pointer (some ⟨G, 0, none⟩), .int .i64 m] w fun e w' => ∃ b, e = .returned (.bool b) ∧ CurAt w' G A n c ∧ Only G w w' := by
  go_enter Tryz.func105, Tryz.ntmps105
  go_wp2_with fail
  refine (l01Below_any G n c m A B w hn hm hm2 hc hb hB).mono ?_
  rintro e w1 ⟨r, rfl, hr, hc1, ho⟩
  have HC := hide hc1
  have HO := hide ho
  clear hc1 ho hc hb
  go_wp2_with fail
  go_ret
  exact ⟨_, rfl, HC.out, HO.out⟩
theorem aside_set_new {w W : World} {lo hi g j : Nat} (h : Aside lo hi w W) (hg : w.heap.size ≤ g) (u : Value) : Aside lo hi w (W.setCell ⟨g, j, none⟩ u) :=
  ⟨h.os, h.tape, h.output, by rw [setCell_size]; exact h.size, fun k hk hd => (Below.heap_setCell _ _ _ _ (show k ≠ g by omega)).trans (h.block k hk hd)⟩
theorem aside_below {w W W' : World} {lo hi : Nat} (h : Aside lo hi w W) (k : Below W.heap.size W W') : Aside lo hi w W' := h.trans (belowAsides k lo hi)
end Go.Proofs.YtnbaookdeijhhaaGreatDoor
