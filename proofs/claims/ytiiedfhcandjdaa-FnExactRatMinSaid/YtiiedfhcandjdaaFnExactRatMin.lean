/-
  The law FnExactRatMin holds at every argument: the program's function answers as the reference does, and leaves its arguments as they were. No condition.
-/
import Derived.Test.YtiiedfhcandjdaaRows
import Derived.WalkKit
import Derived.ProofKit
import Derived.OpenShut
import Derived.ShutString
import Derived.ChangeOld
import Derived.Below
import Derived.Lib.SmallJoins
import Derived.Test.YtiiedfhcandjdaaRatW10
import Derived.Test.YtiiedfhcandjdaaNest
namespace Go.Proofs.Ytiiedfhcandjdaa.fnExactRatMin
open Go.ChangeShapes Go.WideShapes Go.ChangeAt Go.RowKit
open Go.ChangeMaps (open_string shut_string)
set_option linter.unusedVariables false

theorem own : ownKnob Try.prog.godebug = none := by kernel_rfl
theorem laidOut : laidOutB Try.prog = true := by kernel_rfl

set_option maxRecDepth 100000 in
theorem lifted (os : Os) (started : os.Started) (H : Type) (enc : TypeId × Value → H) :
    ReturnsInHanded {} Try.checked os 15 .any (Rows.fnExactRatMinSpec.pre6 enc Try.prog Try.f15 Rows.fnExactRatMinRow.domain false) (Rows.fnExactRatMinSpec.post enc Try.prog Try.f15 false true false false) := by
  refine returnsInHanded_of_change (C := Try.checked) own started (by kernel_rfl) Try.func15
    (ChangeSpec.witness6 (enc := enc) (C := Try.checked) false ⟨#[], #[.agg #[.bool false, .slice none 0 0, .slice none 0 0], .agg #[.bool false, .slice none 0 0, .slice none 0 0]], []⟩ 8 (by kernel_rfl) (by kernel_rfl) (by kernel_rfl) (by kernel_rfl)) ?_
  intro W base args ds gs before hval0 hW hcnd _
  have hval : ∀ (j : Nat) t v, Try.f15.params[j]? = some t → args[j]? = some v → Value.okWide Try.prog W .any base t v := hval0
  have hW' := hW
  obtain ⟨p, q, hA0, hV, rfl, hfz, hnd⟩ := hW
  have hA : DataW.TrodAll enc Try.prog W 0 (fun _ => true) true Try.f15.params.toList args.toList ds p := hA0
  rw [Try.params15] at hA hval
  obtain ⟨v0, vs0, d0, ds0, p0, q0, hargs, rfl, rfl, h0, r0⟩ := trodAll_cons hA
  obtain ⟨v1, vs1, d1, ds1, p1, q1, rfl, rfl, rfl, h1, r1⟩ := trodAll_cons r0
  obtain ⟨rfl, rfl, rfl⟩ := trodAll_nil r1
  obtain rfl : args = #[v0, v1] := by cases args; simp_all
  obtain ⟨rfl, rfl⟩ := trodVars_none hV
  have k0 := h0
  have lt0 : ∀ x ∈ p0, x.block < W.heap.size := by obtain ⟨m, hm⟩ := k0; exact DataW.trod_lt m _ _ _ hm
  obtain ⟨e0, a0', b0', y00, y01, y02, m0, m0', hve0, hy00, hy01, hy02⟩ := open_nest Try.underlying26 Try.underlying24 (show Try.prog.cellsOf 26 = 3 by kernel_rfl) rfl rfl rfl rfl (show Try.prog.cellsOf 24 = 2 by kernel_rfl) (show Try.prog.cellsOf 22 = 1 by kernel_rfl) (show Try.prog.cellsOf 4 = 1 by kernel_rfl) (show Try.prog.cellsOf 22 = 1 by kernel_rfl) (hval 0 26 v0 rfl rfl) h0
  obtain ⟨s0, a0, len0, cap0, z0, rfl, rfl, w0⟩ : ∃ (s : Bool) (a : Option Addr) (l c : Nat) (z : List Int), e0 = .bool s ∧ a0' = .slice a l c ∧ IsRow .i64 W a l c z := by
    obtain ⟨s, hs, _⟩ := DataW.trod_bool Try.underlying4 hy00
    rcases open_ints Try.underlying22 Try.underlying3 (by kernel_rfl) hy01 with ⟨hcs, _⟩ | ⟨x, l, c, zs, hcs, _, hl, hm, hz, _, hcell, hwz⟩
    · exact ⟨s, none, 0, 0, [], by simpa using hs, by simpa using hcs, .inl ⟨rfl, rfl, rfl, rfl⟩⟩
    · exact ⟨s, some x, l, c, zs, by simpa using hs, by simpa using hcs, .inr ⟨_, rfl, hl, hm, by simpa using hz, hcell, hwz⟩⟩
  obtain ⟨b0, blen0, bcap0, zb0, rfl, wb0⟩ : ∃ (a : Option Addr) (l c : Nat) (z : List Int), b0' = .slice a l c ∧ IsRow .i64 W a l c z := by
    rcases open_ints Try.underlying22 Try.underlying3 (by kernel_rfl) hy02 with ⟨hcs, _⟩ | ⟨x, l, c, zs, hcs, _, hl, hm, hz, _, hcell, hwz⟩
    · exact ⟨none, 0, 0, [], by simpa using hcs, .inl ⟨rfl, rfl, rfl, rfl⟩⟩
    · exact ⟨some x, l, c, zs, by simpa using hcs, .inr ⟨_, rfl, hl, hm, by simpa using hz, hcell, hwz⟩⟩
  subst hve0
  have k1 := h1
  have lt1 : ∀ x ∈ p1, x.block < W.heap.size := by obtain ⟨m, hm⟩ := k1; exact DataW.trod_lt m _ _ _ hm
  obtain ⟨e1, a1', b1', y10, y11, y12, m1, m1', hve1, hy10, hy11, hy12⟩ := open_nest Try.underlying26 Try.underlying24 (show Try.prog.cellsOf 26 = 3 by kernel_rfl) rfl rfl rfl rfl (show Try.prog.cellsOf 24 = 2 by kernel_rfl) (show Try.prog.cellsOf 22 = 1 by kernel_rfl) (show Try.prog.cellsOf 4 = 1 by kernel_rfl) (show Try.prog.cellsOf 22 = 1 by kernel_rfl) (hval 1 26 v1 rfl rfl) h1
  obtain ⟨s1, a1, len1, cap1, z1, rfl, rfl, w1⟩ : ∃ (s : Bool) (a : Option Addr) (l c : Nat) (z : List Int), e1 = .bool s ∧ a1' = .slice a l c ∧ IsRow .i64 W a l c z := by
    obtain ⟨s, hs, _⟩ := DataW.trod_bool Try.underlying4 hy10
    rcases open_ints Try.underlying22 Try.underlying3 (by kernel_rfl) hy11 with ⟨hcs, _⟩ | ⟨x, l, c, zs, hcs, _, hl, hm, hz, _, hcell, hwz⟩
    · exact ⟨s, none, 0, 0, [], by simpa using hs, by simpa using hcs, .inl ⟨rfl, rfl, rfl, rfl⟩⟩
    · exact ⟨s, some x, l, c, zs, by simpa using hs, by simpa using hcs, .inr ⟨_, rfl, hl, hm, by simpa using hz, hcell, hwz⟩⟩
  obtain ⟨b1, blen1, bcap1, zb1, rfl, wb1⟩ : ∃ (a : Option Addr) (l c : Nat) (z : List Int), b1' = .slice a l c ∧ IsRow .i64 W a l c z := by
    rcases open_ints Try.underlying22 Try.underlying3 (by kernel_rfl) hy12 with ⟨hcs, _⟩ | ⟨x, l, c, zs, hcs, _, hl, hm, hz, _, hcell, hwz⟩
    · exact ⟨none, 0, 0, [], by simpa using hcs, .inl ⟨rfl, rfl, rfl, rfl⟩⟩
    · exact ⟨some x, l, c, zs, by simpa using hcs, .inr ⟨_, rfl, hl, hm, by simpa using hz, hcell, hwz⟩⟩
  subst hve1
  clear hA0 hval0
  refine (FnExactRatMin_walk W s0 a0 len0 cap0 z0 w0 b0 blen0 bcap0 zb0 wb0 s1 a1 len1 cap1 z1 w1 b1 blen1 bcap1 zb1 wb1).mono fun e W' ⟨he, bel⟩ => ?_
  subst he
  exact ⟨_, rfl, _, _, _, [], _, [], hW', trodAll_mk1 (shut_bool Try.underlying4 _), (trodAll_cons_mk (Below.trod laidOut (by kernel_rfl) (of_decide_eq_true (by kernel_rfl)) k0 bel lt0) (trodAll_cons_mk (Below.trod laidOut (by kernel_rfl) (of_decide_eq_true (by kernel_rfl)) k1 bel lt1) trodAll_mk0)), rfl, bel.frame _, fun h => by cases h⟩

theorem over : Rows.fnExactRatMinRow.holds Try.pinned (OpenSpec.ofChange Rows.fnExactRatMinSpec) :=
  OpenClaim.holds_of_wide 15 Try.f15 rfl rfl rfl rfl rfl rfl rfl ⟨rfl, rfl, rfl, rfl, rfl⟩ rfl rfl rfl rfl rfl (by kernel_rfl) Try.func15 (by kernel_rfl)
    (of_decide_eq_true (by kernel_rfl)) (by unfold Func.isWrapper; first | (rw [if_pos (by decide +kernel)]; kernel_rfl) | (rw [if_neg (by decide +kernel)]; exact ⟨rfl, rfl⟩))
    (fun os started H enc _ => lifted os started H enc)

/-- The statement. -/
theorem proved : Rows.FnExactRatMinSaid := over
end Go.Proofs.Ytiiedfhcandjdaa.fnExactRatMin
