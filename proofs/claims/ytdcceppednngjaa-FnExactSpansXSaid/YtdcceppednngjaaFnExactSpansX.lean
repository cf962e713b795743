/-
  The law FnExactSpansX holds at every argument: the program's function answers as the reference does, and leaves its arguments as they were. No condition.
-/
import Derived.Test.YtdcceppednngjaaRows
import Derived.WalkKit
import Derived.ProofKit
import Derived.OpenShut
import Derived.ShutString
import Derived.ChangeOld
import Derived.Below
import Derived.Lib.SmallJoins
import Derived.Test.YtdcceppednngjaaEdgW2
import Derived.Test.YtdcceppednngjaaNV
namespace Go.Proofs.Ytdcceppednngjaa.fnExactSpansX
open Go.ChangeShapes Go.WideShapes Go.ChangeAt Go.RowKit
open Go.ChangeMaps (open_string shut_string)
set_option linter.unusedVariables false

theorem own : ownKnob Try.prog.godebug = none := by kernel_rfl
theorem laidOut : laidOutB Try.prog = true := by kernel_rfl

set_option maxRecDepth 100000 in
theorem lifted (os : Os) (started : os.Started) (H : Type) (enc : TypeId × Value → H) :
    ReturnsInHanded {} Try.checked os 6 .any (Rows.fnExactSpansXSpec.pre6 enc Try.prog Try.f6 Rows.fnExactSpansXRow.domain false) (Rows.fnExactSpansXSpec.post enc Try.prog Try.f6 false true false false) := by
  refine returnsInHanded_of_change (C := Try.checked) own started (by kernel_rfl) Try.func6
    (ChangeSpec.witness6 (enc := enc) (C := Try.checked) false ⟨#[], #[.agg #[.int .i64 0, .int .i64 0, .int .i64 0, .int .i64 0, .int .i64 0, .bool false], .agg #[.bool false, .slice none 0 0, .slice none 0 0], .agg #[.bool false, .slice none 0 0, .slice none 0 0]], []⟩ 8 (by kernel_rfl) (by kernel_rfl) (by kernel_rfl) (by kernel_rfl)) ?_
  intro W base args ds gs before hval0 hW hcnd _
  have hval : ∀ (j : Nat) t v, Try.f6.params[j]? = some t → args[j]? = some v → Value.okWide Try.prog W .any base t v := hval0
  have hW' := hW
  obtain ⟨p, q, hA0, hV, rfl, hfz, hnd⟩ := hW
  have hA : DataW.TrodAll enc Try.prog W 0 (fun _ => true) true Try.f6.params.toList args.toList ds p := hA0
  rw [Try.params6] at hA hval
  obtain ⟨v0, vs0, d0, ds0, p0, q0, hargs, rfl, rfl, h0, r0⟩ := trodAll_cons hA
  obtain ⟨v1, vs1, d1, ds1, p1, q1, rfl, rfl, rfl, h1, r1⟩ := trodAll_cons r0
  obtain ⟨v2, vs2, d2, ds2, p2, q2, rfl, rfl, rfl, h2, r2⟩ := trodAll_cons r1
  obtain ⟨rfl, rfl, rfl⟩ := trodAll_nil r2
  obtain rfl : args = #[v0, v1, v2] := by cases args; simp_all
  obtain ⟨rfl, rfl⟩ := trodVars_none hV
  have k0 := h0
  have lt0 : ∀ x ∈ p0, x.block < W.heap.size := by obtain ⟨m, hm⟩ := k0; exact DataW.trod_lt m _ _ _ hm
  obtain ⟨x0, y0, u0, z0, n0, b0, hve0, wx0, wy0, wu0, wz0, wn0⟩ := Try.edge_of (hval 0 25 v0 rfl rfl) h0
  subst hve0
  have k1 := h1
  have lt1 : ∀ x ∈ p1, x.block < W.heap.size := by obtain ⟨m, hm⟩ := k1; exact DataW.trod_lt m _ _ _ hm
  obtain ⟨e1, a1', b1', y10, y11, y12, m1, m1', hve1, hy10, hy11, hy12⟩ := open_nest Try.underlying47 Try.underlying45 (show Try.prog.cellsOf 47 = 3 by kernel_rfl) rfl rfl rfl rfl (show Try.prog.cellsOf 45 = 2 by kernel_rfl) (show Try.prog.cellsOf 43 = 1 by kernel_rfl) (show Try.prog.cellsOf 4 = 1 by kernel_rfl) (show Try.prog.cellsOf 43 = 1 by kernel_rfl) (hval 1 47 v1 rfl rfl) h1
  obtain ⟨s1, a1, len1, cap1, z1, rfl, rfl, w1⟩ : ∃ (s : Bool) (a : Option Addr) (l c : Nat) (z : List Int), e1 = .bool s ∧ a1' = .slice a l c ∧ IsRow .i64 W a l c z := by
    obtain ⟨s, hs, _⟩ := DataW.trod_bool Try.underlying4 hy10
    rcases open_ints Try.underlying43 Try.underlying3 (by kernel_rfl) hy11 with ⟨hcs, _⟩ | ⟨x, l, c, zs, hcs, _, hl, hm, hz, _, hcell, hwz⟩
    · exact ⟨s, none, 0, 0, [], by simpa using hs, by simpa using hcs, .inl ⟨rfl, rfl, rfl, rfl⟩⟩
    · exact ⟨s, some x, l, c, zs, by simpa using hs, by simpa using hcs, .inr ⟨_, rfl, hl, hm, by simpa using hz, hcell, hwz⟩⟩
  obtain ⟨b1, blen1, bcap1, zb1, rfl, wb1⟩ : ∃ (a : Option Addr) (l c : Nat) (z : List Int), b1' = .slice a l c ∧ IsRow .i64 W a l c z := by
    rcases open_ints Try.underlying43 Try.underlying3 (by kernel_rfl) hy12 with ⟨hcs, _⟩ | ⟨x, l, c, zs, hcs, _, hl, hm, hz, _, hcell, hwz⟩
    · exact ⟨none, 0, 0, [], by simpa using hcs, .inl ⟨rfl, rfl, rfl, rfl⟩⟩
    · exact ⟨some x, l, c, zs, by simpa using hcs, .inr ⟨_, rfl, hl, hm, by simpa using hz, hcell, hwz⟩⟩
  subst hve1
  have k2 := h2
  have lt2 : ∀ x ∈ p2, x.block < W.heap.size := by obtain ⟨m, hm⟩ := k2; exact DataW.trod_lt m _ _ _ hm
  obtain ⟨e2, a2', b2', y20, y21, y22, m2, m2', hve2, hy20, hy21, hy22⟩ := open_nest Try.underlying47 Try.underlying45 (show Try.prog.cellsOf 47 = 3 by kernel_rfl) rfl rfl rfl rfl (show Try.prog.cellsOf 45 = 2 by kernel_rfl) (show Try.prog.cellsOf 43 = 1 by kernel_rfl) (show Try.prog.cellsOf 4 = 1 by kernel_rfl) (show Try.prog.cellsOf 43 = 1 by kernel_rfl) (hval 2 47 v2 rfl rfl) h2
  obtain ⟨s2, a2, len2, cap2, z2, rfl, rfl, w2⟩ : ∃ (s : Bool) (a : Option Addr) (l c : Nat) (z : List Int), e2 = .bool s ∧ a2' = .slice a l c ∧ IsRow .i64 W a l c z := by
    obtain ⟨s, hs, _⟩ := DataW.trod_bool Try.underlying4 hy20
    rcases open_ints Try.underlying43 Try.underlying3 (by kernel_rfl) hy21 with ⟨hcs, _⟩ | ⟨x, l, c, zs, hcs, _, hl, hm, hz, _, hcell, hwz⟩
    · exact ⟨s, none, 0, 0, [], by simpa using hs, by simpa using hcs, .inl ⟨rfl, rfl, rfl, rfl⟩⟩
    · exact ⟨s, some x, l, c, zs, by simpa using hs, by simpa using hcs, .inr ⟨_, rfl, hl, hm, by simpa using hz, hcell, hwz⟩⟩
  obtain ⟨b2, blen2, bcap2, zb2, rfl, wb2⟩ : ∃ (a : Option Addr) (l c : Nat) (z : List Int), b2' = .slice a l c ∧ IsRow .i64 W a l c z := by
    rcases open_ints Try.underlying43 Try.underlying3 (by kernel_rfl) hy22 with ⟨hcs, _⟩ | ⟨x, l, c, zs, hcs, _, hl, hm, hz, _, hcell, hwz⟩
    · exact ⟨none, 0, 0, [], by simpa using hcs, .inl ⟨rfl, rfl, rfl, rfl⟩⟩
    · exact ⟨some x, l, c, zs, by simpa using hcs, .inr ⟨_, rfl, hl, hm, by simpa using hz, hcell, hwz⟩⟩
  subst hve2
  clear hA0 hval0
  refine (FnExactSpansX_walk W x0 y0 u0 z0 n0 b0 wx0 wy0 wu0 wz0 wn0 ⟨s1, a1, len1, cap1, z1, b1, blen1, bcap1, zb1, rfl, rfl, rfl, w1, wb1⟩ ⟨s2, a2, len2, cap2, z2, b2, blen2, bcap2, zb2, rfl, rfl, rfl, w2, wb2⟩).mono fun e W' ⟨he, bel⟩ => ?_
  subst he
  exact ⟨_, rfl, _, _, _, [], _, [], hW', trodAll_mk1 (shut_bool Try.underlying4 _), (trodAll_cons_mk (Below.trod laidOut (by kernel_rfl) (of_decide_eq_true (by kernel_rfl)) k0 bel lt0) (trodAll_cons_mk (Below.trod laidOut (by kernel_rfl) (of_decide_eq_true (by kernel_rfl)) k1 bel lt1) (trodAll_cons_mk (Below.trod laidOut (by kernel_rfl) (of_decide_eq_true (by kernel_rfl)) k2 bel lt2) trodAll_mk0))), rfl, bel.frame _, fun h => by cases h⟩

theorem over : Rows.fnExactSpansXRow.holds Try.pinned (OpenSpec.ofChange Rows.fnExactSpansXSpec) :=
  OpenClaim.holds_of_wide 6 Try.f6 rfl rfl rfl rfl rfl rfl rfl ⟨rfl, rfl, rfl, rfl, rfl⟩ rfl rfl rfl rfl rfl (by kernel_rfl) Try.func6 (by kernel_rfl)
    (of_decide_eq_true (by kernel_rfl)) (by unfold Func.isWrapper; first | (rw [if_pos (by decide +kernel)]; kernel_rfl) | (rw [if_neg (by decide +kernel)]; exact ⟨rfl, rfl⟩))
    (fun os started H enc _ => lifted os started H enc)

/-- The statement. -/
theorem proved : Rows.FnExactSpansXSaid := over
end Go.Proofs.Ytdcceppednngjaa.fnExactSpansX
