/-
  The texts RatU, PtT2, put together; each has its own heading below. No condition of ours.
-/
import Derived.Test.YtnbaookdeijhhaaGreatDoorRTN
import Derived.Test.YtnbaookdeijhhaaGreatDoorPB
import Derived.Test.YtnbaookdeijhhaaGreatDoorTX
import Derived.Test.YtnbaookdeijhhaaGreatDoorPtM
/-
  Fractions as text: ParseRat: what both sides' contracts say.
-/


namespace Go.Proofs.YtnbaookdeijhhaaGreatDoor
open Go.RowKit
set_option linter.unusedVariables false

def ParsRes (TI : TypeId) (w w' : World) (e : Ending) (s : ByteArray) : Prop :=
  ∃ v d, e = .returned (.tuple #[.agg #[.bool (parR s).1.1, v, d], .bool (okRB s)]) ∧ Pair w' w.heap.size TI v (parR s).1.2 d (parR s).2 ∧ Below w.heap.size w w'
theorem ParsRes.of {TI : TypeId} {w w' : World} {e : Ending} {s : ByteArray} {v d : Value} {Z : (Bool × List Int) × List Int} {k : Bool} (hz : parR s = Z) (hk : okRB s = k) (he : e = .returned (.tuple #[.agg #[.bool Z.1.1, v, d], .bool k])) (hp : Pair w' w.heap.size TI v Z.1.2 d Z.2) (hb : Below w.heap.size w w') : ParsRes TI w w' e s := by
  subst hz; subst hk; exact ⟨v, d, he, hp, hb⟩
theorem pars_no {TI : TypeId} {w w' : World} {e : Ending} {s : ByteArray} (hk : okRB s = false) (he : e = .returned (.tuple #[.agg #[.bool false, .slice none 0 0, .slice none 0 0], .bool false])) (hp : Pair w' w.heap.size TI (.slice none 0 0) [] (.slice none 0 0) []) (hb : Below w.heap.size w w') : ParsRes TI w w' e s :=
  ParsRes.of (Z := noR) (by rw [parR, hk]; rfl) hk he hp hb
theorem limbs_Z (s : ByteArray) : Limbs (parseZ s).2 := by
  by_cases h : parseZB s = true
  · rw [parseZ, if_pos h]
    unfold parseZB at h
    simp only [Bool.and_eq_true] at h
    exact ((natB_iff _).1 (natB_parse h.1)).1.1
  · have h : parseZB s = false := by simpa using h
    rw [parseZ, h]; intro d hd; cases hd
theorem limbs_L (s : ByteArray) : Limbs (parseL s) := by
  by_cases h : parseB s = true
  · exact ((natB_iff _).1 (natB_parse h)).1.1
  · have h : parseB s = false := by simpa using h
    rw [parseL, h]; intro d hd; cases hd
theorem below_drewNT {B : Nat} {a w : World} (h : Below B a w) (n : Nat) : Below B a (w.drewN n) := ⟨h.os, h.tape, h.output, h.size, h.block⟩
/-- what is asked of the two parts -/
def Asks (s : ByteArray) (Y : Bool × List Int) (L : List Int) (zb pb : Bool) : Prop :=
  (okRB s = true → parR s = (Y, L)) ∧ (zb = false → okRB s = false) ∧ (pb = false → okRB s = false) ∧ (¬ fmtR Y.1 Y.2 L = s → okRB s = false) ∧ (zb = true → pb = true → fmtR Y.1 Y.2 L = s → okRB s = true) ∧ Limbs Y.2 ∧ Limbs L ∧ Y.2.length ≤ 1048576 ∧ L.length ≤ 1048576
theorem asks_cut (s : ByteArray) : Asks s (parseZ (headB s)) (parseL (denS s)) (parseZB (headB s)) (parseB (denS s)) := by
  refine ⟨fun h => by rw [parR, if_pos h], fun h => by rw [okRB, h]; simp, fun h => by rw [okRB, h]; simp, fun h => by rw [okRB, decide_eq_false h]; simp, fun h1 h2 h3 => by rw [okRB, h1, h2, decide_eq_true h3]; rfl, limbs_Z _, limbs_L _, parseZ_len _, parseL_len _⟩
end Go.Proofs.YtnbaookdeijhhaaGreatDoor

/-
  Points as text: what is parsed of a point; said of bytes.
-/




namespace Go.Proofs.YtnbaookdeijhhaaGreatDoor
open Go.RowKit
set_option linter.unusedVariables false

theorem cntC_digs {s : ByteArray} (h : digsB s = true) : cntC s = 0 := by
  obtain ⟨_, hd⟩ := digs_all h
  refine cnt_zeroC fun i hi he => ?_
  have := hd i hi
  rw [he] at this
  exact absurd this (by decide)
theorem cntC_parse {s : ByteArray} (h : parseB s = true) : cntC s = 0 := by
  unfold parseB at h
  simp only [Bool.and_eq_true] at h
  exact cntC_digs h.1.1
theorem cntC_fmtB {xs : List Int} (h : natB xs = true) : cntC (fmtB xs) = 0 := cntC_parse (parse_fmt h).1
theorem cntC_fmtZ {s : Bool} {xs : List Int} (h : bigB s xs = true) : cntC (fmtZ s xs) = 0 := by
  have hb := cntC_fmtB (bigB_nat h)
  cases s
  · rw [fmtZ_pos h]; exact hb
  · rw [fmtZ_neg h, cnt_appC, hb]; decide
theorem cntC_fmtR (s : Bool) (xs ds : List Int) : cntC (fmtR s xs ds) = 0 := by
  by_cases h : ratB s xs ds = true
  · by_cases h1 : ds = [1]
    · rw [fmtR_one h h1, cntC_fmtZ (ratB_big h)]
    · rw [fmtR_two h h1, cnt_appC, cnt_appC, cntC_fmtZ (ratB_big h), cntC_fmtB (ratB_den h)]; decide
  · have h : ratB s xs ds = false := by simpa using h
    rw [fmtR_no h]; decide
def okP (s : ByteArray) : Bool := okRB (headBC s) && okRB (tailBC s)
def parP (s : ByteArray) : PQ := if okP s then (parR (headBC s), parR (tailBC s)) else (noR, noR)
theorem parR_fit (s : ByteArray) : QFit (parR s) := by
  obtain ⟨h1, h2⟩ := parR_len s
  refine ⟨h1, h2, ?_⟩
  unfold parR; split
  · exact ⟨wfL_of (limbs_Z _), wfL_of (limbs_L _)⟩
  · exact noR_fit.2.2
def fmtP (P : PQ) : ByteArray := if ratQ P.1 && ratQ P.2 then (fmtR P.1.1.1 P.1.1.2 P.1.2 ++ ⟨#[44]⟩) ++ fmtR P.2.1.1 P.2.1.2 P.2.2 else ⟨#[]⟩
theorem fmtP_no {P : PQ} (h : (ratQ P.1 && ratQ P.2) = false) : fmtP P = ⟨#[]⟩ := by rw [fmtP, h]; rfl
theorem fmtP_ok {P : PQ} (h : (ratQ P.1 && ratQ P.2) = true) : fmtP P = (fmtR P.1.1.1 P.1.1.2 P.1.2 ++ ⟨#[44]⟩) ++ fmtR P.2.1.1 P.2.1.2 P.2.2 := by rw [fmtP, h]; rfl
end Go.Proofs.YtnbaookdeijhhaaGreatDoor
