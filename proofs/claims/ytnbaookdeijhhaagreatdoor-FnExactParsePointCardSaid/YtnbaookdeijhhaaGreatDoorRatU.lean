/-
  Fractions as text: ParseRat: what both sides' contracts say.
-/
import Derived.Test.YtnbaookdeijhhaaGreatDoorRatT
import Derived.Test.YtnbaookdeijhhaaGreatDoorPB
namespace Go.Proofs.YtnbaookdeijhhaaGreatDoor
open Go.RowKit
set_option linter.unusedVariables false

def ParsRes (TI : TypeId) (w w' : World) (e : Ending) (s : ByteArray) : Prop :=
  ∃ v d, e = .returned (.tuple #[.agg #[.bool (parR s).1.1, v, d], .bool (okRB s)]) ∧ Pair w' w.heap.size TI v (parR s).1.2 d (parR s).2 ∧ Below w.heap.size w w'
theorem ParsRes.of {TI : TypeId} {w w' : World} {e : Ending} {s : ByteArray} {v d : Value} {Z : (Bool × List Int) × List Int} {k : Bool} (hz : parR s = Z) (hk : okRB s = k) (he : e = .returned (.tuple #[.agg #[.bool Z.1.1, v, d], .bool k])) (hp : Pair w' w.heap.size TI v Z.1.2 d Z.2) (hb : Below w.heap.size w w') : ParsRes TI w w' e s := by
  subst hz; subst hk; exact ⟨v, d, he, hp, hb⟩
theorem pars_no {TI : TypeId} {w w' : World} {e : Ending} {s : ByteArray} (hk : okRB s = false) (he : e = .returned (.tuple #[.agg #[.bool false, .slice none 0 0, .slice none 0 0], .bool false])) (hp : Pair w' w.heap.size TI (.slice none 0 0) [] (.slice none 0 0) []) (hb : Below w.heap.size w w') : ParsRes TI w w' e s :=
  ParsRes.of (Z := noR) (by rw [parR, hk]; rfl) hk he hp hb
theorem limbs_Z (s : ByteArray) : Limbs (parseZ s).2 := by
  by_cases h : parseZB s = true
  · rw [parseZ, if_pos h]
    unfold parseZB at h
    simp only [Bool.and_eq_true] at h
    exact ((natB_iff _).1 (natB_parse h.1)).1.1
  · have h : parseZB s = false := by simpa using h
    rw [parseZ, h]; intro d hd; cases hd
theorem limbs_L (s : ByteArray) : Limbs (parseL s) := by
  by_cases h : parseB s = true
  · exact ((natB_iff _).1 (natB_parse h)).1.1
  · have h : parseB s = false := by simpa using h
    rw [parseL, h]; intro d hd; cases hd
theorem below_drewNT {B : Nat} {a w : World} (h : Below B a w) (n : Nat) : Below B a (w.drewN n) := ⟨h.os, h.tape, h.output, h.size, h.block⟩
/-- what is asked of the two parts -/
def Asks (s : ByteArray) (Y : Bool × List Int) (L : List Int) (zb pb : Bool) : Prop :=
  (okRB s = true → parR s = (Y, L)) ∧ (zb = false → okRB s = false) ∧ (pb = false → okRB s = false) ∧ (¬ fmtR Y.1 Y.2 L = s → okRB s = false) ∧ (zb = true → pb = true → fmtR Y.1 Y.2 L = s → okRB s = true) ∧ Limbs Y.2 ∧ Limbs L ∧ Y.2.length ≤ 1048576 ∧ L.length ≤ 1048576
theorem asks_cut (s : ByteArray) : Asks s (parseZ (headB s)) (parseL (denS s)) (parseZB (headB s)) (parseB (denS s)) := by
  refine ⟨fun h => by rw [parR, if_pos h], fun h => by rw [okRB, h]; simp, fun h => by rw [okRB, h]; simp, fun h => by rw [okRB, decide_eq_false h]; simp, fun h1 h2 h3 => by rw [okRB, h1, h2, decide_eq_true h3]; rfl, limbs_Z _, limbs_L _, parseZ_len _, parseL_len _⟩
theorem str_nil {a : ByteArray} (h : a = ⟨#[]⟩) : a.toList = [] := by
  subst h
  rw [ByteArray.toList, ByteArray.toList.loop]; rfl
theorem str_nilE {a : ByteArray} (h : a = ⟨#[]⟩) : a.toList.isEmpty = true := by rw [str_nil h]; rfl
theorem str_some {a : ByteArray} (h : ¬ a = ⟨#[]⟩) : ¬ a.toList = [] := fun e => by
  have h1 := str_ne h
  rw [e, str_nil (rfl : (⟨#[]⟩ : ByteArray) = ⟨#[]⟩)] at h1
  cases h1
theorem str_someE {a : ByteArray} (h : ¬ a = ⟨#[]⟩) : a.toList.isEmpty = false := by
  have := str_some h
  cases hl : a.toList with
  | nil => exact absurd hl this
  | cons x y => rfl
theorem okRB_empty : okRB ⟨#[]⟩ = false := by
  have h1 := (head_le ⟨#[]⟩).1
  have h0 : (headB ⟨#[]⟩).size ≤ 0 := h1
  have : parseZB (headB ⟨#[]⟩) = false := by
    by_cases h : parseZB (headB ⟨#[]⟩) = true
    · have := parseZB_size h; omega
    · simpa using h
  rw [okRB, this]; rfl
theorem asks_fine {s : ByteArray} {Y : Bool × List Int} {L : List Int} {zb pb : Bool} (h : Asks s Y L zb pb) (he : fmtR Y.1 Y.2 L = ⟨#[]⟩) : okRB s = false := by
  by_cases hf : fmtR Y.1 Y.2 L = s
  · rw [he] at hf; rw [← hf]; exact okRB_empty
  · exact h.2.2.2.1 hf
theorem heads (s : ByteArray) : (splitL s ⟨#[47]⟩ = [headB s] ∧ Asks s (parseZ (headB s)) [1] (parseZB (headB s)) true) ∨ ∃ X1 r, splitL s ⟨#[47]⟩ = headB s :: X1 :: r ∧ X1.size ≤ s.size ∧ Asks s (parseZ (headB s)) (parseL X1) (parseZB (headB s)) (parseB X1) := by
  have HA := asks_cut s
  rcases cuts s with ⟨h, hs⟩ | ⟨p, hp, h, hn, hs⟩ | ⟨p, hp, h, hn, y, r, hs, hy, hc⟩
  · obtain ⟨h1, h2⟩ := cut_none h
    have hd : denS s = ⟨#[49]⟩ := by rw [denS, h2]; rfl
    rw [hd, one_parse.1, one_parse.2] at HA
    exact .inl ⟨by rw [h1]; exact hs, HA⟩
  · obtain ⟨h1, h2, h3⟩ := cut_some hp h hn
    have hd : denS s = s.extract (p + 1) s.size := by rw [denS, h3, h2]; rfl
    rw [hd] at HA
    exact .inr ⟨_, [], by rw [h1]; exact hs, by rw [ByteArray.size_extract]; omega, HA⟩
  · obtain ⟨h1, h2, h3⟩ := cut_some hp h hn
    obtain ⟨hr, ho⟩ := ref_more hp h hn hc y
    refine .inr ⟨y, r, by rw [h1]; exact hs, hy, fun e => (by rw [ho] at e; cases e), fun _ => ho, fun _ => ho, fun _ => ho, fun e1 e2 e3 => ?_, limbs_Z _, limbs_L _, parseZ_len _, parseL_len _⟩
    rw [h1] at e1 e3
    have hne : ¬ s = ⟨#[]⟩ := fun e => by
      have h0 : s.size = 0 := by rw [e]; rfl
      omega
    rw [refOK, e1, e2, e3, decide_eq_false hne, decide_eq_true rfl] at hr
    cases hr
end Go.Proofs.YtnbaookdeijhhaaGreatDoor
