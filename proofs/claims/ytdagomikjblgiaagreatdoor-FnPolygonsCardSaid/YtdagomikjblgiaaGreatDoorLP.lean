/-
  The texts LaidP, Laid, put together; each has its own heading below. No condition of ours.
-/
import Derived.Test.YtdagomikjblgiaaGreatDoorFX
import Derived.Test.YtdagomikjblgiaaGreatDoorTie
import Derived.Stop.LaidErr
import Derived.LaidLaws
import Derived.Lib.LaidTab
import Derived.Test.YtdagomikjblgiaaGreatDoorPS
/-
  What the rows' listed tables give the walks: the table of powers of ten.
-/





namespace Go.Proofs.YtdagomikjblgiaaGreatDoor
open Go.RowKit
theorem pow_of_laid {W : World} {r : List (String × DataW Unit)} (h : laidMet Tryz.prog (("math/bits.deBruijn32tab", Rows.laid_math_bits_deBruijn32tab) :: ("math/bits.deBruijn64tab", Rows.laid_math_bits_deBruijn64tab) :: ("internal/strconv.uint64pow10", Rows.laid_internal_strconv_uint64pow10) :: r) W) : PowTab W :=
  Lib.tabIs_of_head (k := .u64) (zs := Lib.pow10Tab) Tryz.gPow Tryz.tPow Tryz.underlying164 Tryz.underlying143 (by kernel_rfl) (by kernel_rfl) h.tail.tail
end Go.Proofs.YtdagomikjblgiaaGreatDoor

/-
  What the rows' listed tables give the walks: the two sentinels of strconv.
-/


namespace Go.Proofs.YtdagomikjblgiaaGreatDoor
open Go.RowKit
theorem iface_of_laid {P : Program} {n nm : String} {D : DataW Unit} {r : List (String × DataW Unit)} {W : World} {g : Nat} {ti : TypeId} {ms : Array (String × TypeId)} (h : laidMet P ((n, .iface nm D) :: r) W)
    (hg : P.globalNamed n = some g) (ht : (P.globals[g]?).map (·.type) = some ti) (hi : P.underlying ti = some (.interface ms)) : ∃ tp p, W.var? P n = some #[.iface tp p] := by
  obtain ⟨ps, ⟨g0, t0, cs0, f0, p0, q0, hg0, ht0, hv0, hd0, _, e0⟩, _, hrows⟩ := h
  obtain rfl := Option.some.inj (hg.symm.trans hg0)
  obtain rfl := Option.some.inj (ht.symm.trans ht0)
  obtain ⟨l0⟩ := cs0
  obtain ⟨f', u, v, hc, _, _⟩ := iface_of_trod hi hd0
  exact ⟨u, v, by rw [hv0]; exact congrArg (fun l => some (List.toArray l)) hc⟩
theorem Tryz.gES : Tryz.prog.globalNamed "strconv.ErrSyntax" = some 1 := by kernel_rfl
theorem Tryz.gER : Tryz.prog.globalNamed "strconv.ErrRange" = some 2 := by kernel_rfl
theorem Tryz.tES : (Tryz.prog.globals[1]?).map (·.type) = some 93 := by kernel_rfl
theorem Tryz.tER : (Tryz.prog.globals[2]?).map (·.type) = some 93 := by kernel_rfl
def laid5 : List (String × DataW Unit) := [("math/bits.deBruijn32tab", Rows.laid_math_bits_deBruijn32tab), ("math/bits.deBruijn64tab", Rows.laid_math_bits_deBruijn64tab), ("internal/strconv.uint64pow10", Rows.laid_internal_strconv_uint64pow10), ("strconv.ErrRange", Rows.laid_strconv_ErrRange), ("strconv.ErrSyntax", Rows.laid_strconv_ErrSyntax)]
theorem pow5 {W : World} (h : laidMet Tryz.prog laid5 W) : PowTab W := pow_of_laid h
theorem sentR5 {W : World} (h : laidMet Tryz.prog laid5 W) : Sent W "strconv.ErrRange" := iface_of_laid h.tail.tail.tail Tryz.gER Tryz.tER Tryz.underlying93
theorem sentS5 {W : World} (h : laidMet Tryz.prog laid5 W) : Sent W "strconv.ErrSyntax" := iface_of_laid h.tail.tail.tail.tail Tryz.gES Tryz.tES Tryz.underlying93
end Go.Proofs.YtdagomikjblgiaaGreatDoor
