/-
  The texts ParseS, Parse, put together; each has its own heading below. No condition of ours.
-/
import Derived.Test.YtdagomikjblgiaaGreatDoorFX
import Derived.Test.YtdagomikjblgiaaGreatDoorTX
import Derived.Test.YtdagomikjblgiaaGreatDoorPA
import Derived.Lib.AtoiOr
import Derived.Lib.AtoiErrMem
/-
  What ParseInt answers, of the reference: a walk (contract) over its translation.
-/


namespace Go.Proofs.YtdagomikjblgiaaGreatDoor
open Go.RowKit
set_option linter.unusedVariables false

theorem ret_parse {n m : Int} {a b : Bool} (h1 : n = m) (h2 : a = b) : Ending.returned (.tuple #[.int .i64 n, .bool a]) = .returned (.tuple #[.int .i64 m, .bool b]) := by rw [h1, h2]
end Go.Proofs.YtdagomikjblgiaaGreatDoor

/-
  What ParseInt answers, of the program and of the reference: walks (contracts) over their translation, and the law's walk.
-/




namespace Go.Proofs.YtdagomikjblgiaaGreatDoor
open Go.RowKit
set_option linter.unusedVariables false

theorem noInt_of {s : ByteArray} (h : ∀ v, Lib.atoiAll s.data.toList ≠ .ok v) : NoInt s := fun n h1 h2 e => by
  subst e
  exact h n (by rw [itoaB_data]; exact atoi_itoa h1 h2)
theorem noInt_ok {s : ByteArray} {v : Int} (h : Lib.atoiAll s.data.toList = .ok v) (hne : itoaB v ≠ s) : NoInt s := fun n h1 h2 e => by
  have : Lib.atoiAll s.data.toList = .ok n := by rw [← e, itoaB_data]; exact atoi_itoa h1 h2
  rw [h] at this
  injection this with this
  subst this
  exact hne e


/-- the two sentinels hold some value of an interface's type -/
def Sent (w : World) (n : String) : Prop := ∃ tp p, w.var? Tryz.prog n = some #[.iface tp p]

set_option maxHeartbeats 400000 in
theorem impl_ParseInt (s : ByteArray) (w : World) (hs : s.size ≤ 1048576) (hT : PowTab w) (hE : Sent w "strconv.ErrSyntax") (hR : Sent w "strconv.ErrRange") :
    Calls Tryz.prog 43 #[.string s] w fun e w' => e = .returned (.tuple #[.int .i64 (pval s), .bool (pok s)]) ∧ Below w.heap.size w w' := by
  obtain ⟨tp0, p0, hv0⟩ := hE
  obtain ⟨tp1, p1, hv1⟩ := hR
  cases h : Lib.atoiAll s.data.toList with
  | ok v =>
    obtain ⟨b1, b2⟩ := Lib.atoiAll_bounds h
    have hwf : (Lit.int .i64 v).wf = true := WalkArith.wf_i64 ⟨b1, b2⟩
    have HC := Tryz.strconv_Atoi_ok s (by omega) v h w
    clear hv0 hv1
    by_cases he : itoaB v = s
    · obtain ⟨hp1, hp2⟩ := parse_some b1 b2 he
      have HP := hide (And.intro hp1 hp2)
      have hq := str_eq he
      clear hp1 hp2 he h
      go_enter Tryz.func43, Tryz.ntmps43
      go_wp2_with fail
      refine HC.mono ?_
      rintro e w1 ⟨rfl, hw⟩
      have hb1 : Below w.heap.size w w1 := by
        rcases hw with rfl | ⟨t, rfl⟩
        · exact Below.refl _ _
        · exact Lib.bytesWorld_below _ _ _
      clear hw HC
      go_wp2_with fail
      refine (impl_FormatInt v w1 hwf (hT.below hb1 hT.lt)).mono ?_
      rintro e w2 ⟨rfl, hb2⟩
      go_wp2
      go_ret2
      exact ⟨ret_parse HP.out.2.symm HP.out.1.symm, hb1.trans (hb2.mono hb1.size)⟩
    · have HP := hide (parse_none (noInt_ok h he))
      have hq := str_ne he
      clear he h
      go_enter Tryz.func43, Tryz.ntmps43
      go_wp2_with fail
      refine HC.mono ?_
      rintro e w1 ⟨rfl, hw⟩
      have hb1 : Below w.heap.size w w1 := by
        rcases hw with rfl | ⟨t, rfl⟩
        · exact Below.refl _ _
        · exact Lib.bytesWorld_below _ _ _
      clear hw HC
      go_wp2_with fail
      refine (impl_FormatInt v w1 hwf (hT.below hb1 hT.lt)).mono ?_
      rintro e w2 ⟨rfl, hb2⟩
      go_wp2
      go_ret2
      exact ⟨ret_parse HP.out.2.symm HP.out.1.symm, hb1.trans (hb2.mono hb1.size)⟩
  | range =>
    have HP := hide (parse_none (noInt_of (s := s) (fun v hv => by rw [h] at hv; cases hv)))
    have HC := Tryz.strconv_Atoi_range_var s (by omega) h tp1 p1 w hv1
    clear hv0 hv1 h
    go_enter Tryz.func43, Tryz.ntmps43
    go_wp2_with fail
    refine HC.mono ?_
    rintro e w1 ⟨N, rfl, -, -, hb⟩
    clear HC
    go_wp2
    go_ret2
    exact ⟨ret_parse HP.out.2.symm HP.out.1.symm, hb⟩
  | _ =>
    have HP := hide (parse_none (noInt_of (s := s) (fun v hv => by rw [h] at hv; cases hv)))
    have HC := Any.strconv_Atoi_syntax_var Tryz.laysC172 s (by omega) h tp0 p0 w hv0
    clear hv0 hv1 h
    go_enter Tryz.func43, Tryz.ntmps43
    go_wp2_with fail
    refine HC.mono ?_
    rintro e w1 ⟨N, rfl, -, -, hb⟩
    clear HC
    go_wp2
    go_ret2
    exact ⟨ret_parse HP.out.2.symm HP.out.1.symm, hb⟩

theorem Sent.below {w w' : World} {B : Nat} {n : String} {g : Nat} (h : Sent w n) (hg : Tryz.prog.globalNamed n = some g) (hb : Below B w w') (hB : g < B) : Sent w' n := by
  obtain ⟨tp, p, hv⟩ := h
  exact ⟨tp, p, var?_below hb hg hB hv⟩
theorem Tryz.gSyn : Tryz.prog.globalNamed "strconv.ErrSyntax" = some 1 := by kernel_rfl
theorem Tryz.gRng : Tryz.prog.globalNamed "strconv.ErrRange" = some 2 := by kernel_rfl
theorem Tryz.gltS : 1 < 3 ∧ 2 < 3 := by decide

end Go.Proofs.YtdagomikjblgiaaGreatDoor
