/-
  What the rows' listed tables give the walks: the two sentinels of strconv.
-/
import Derived.Test.YtfajcogkbmefjaaDoorParse
import Derived.Test.YtfajcogkbmefjaaDoorLaidP
namespace Go.Proofs.YtfajcogkbmefjaaDoor
open Go.RowKit
theorem iface_of_laid {P : Program} {n nm : String} {D : DataW Unit} {r : List (String × DataW Unit)} {W : World} {g : Nat} {ti : TypeId} {ms : Array (String × TypeId)} (h : laidMet P ((n, .iface nm D) :: r) W)
    (hg : P.globalNamed n = some g) (ht : (P.globals[g]?).map (·.type) = some ti) (hi : P.underlying ti = some (.interface ms)) : ∃ tp p, W.var? P n = some #[.iface tp p] := by
  obtain ⟨ps, ⟨g0, t0, cs0, f0, p0, q0, hg0, ht0, hv0, hd0, _, e0⟩, _, hrows⟩ := h
  obtain rfl := Option.some.inj (hg.symm.trans hg0)
  obtain rfl := Option.some.inj (ht.symm.trans ht0)
  obtain ⟨l0⟩ := cs0
  obtain ⟨f', u, v, hc, _, _⟩ := iface_of_trod hi hd0
  exact ⟨u, v, by rw [hv0]; exact congrArg (fun l => some (List.toArray l)) hc⟩
theorem Tryd.gES : Tryd.prog.globalNamed "strconv.ErrSyntax" = some 1 := by kernel_rfl
theorem Tryd.gER : Tryd.prog.globalNamed "strconv.ErrRange" = some 2 := by kernel_rfl
theorem Tryd.tES : (Tryd.prog.globals[1]?).map (·.type) = some 62 := by kernel_rfl
theorem Tryd.tER : (Tryd.prog.globals[2]?).map (·.type) = some 62 := by kernel_rfl
def laid5 : List (String × DataW Unit) := [("math/bits.deBruijn32tab", Rows.laid_math_bits_deBruijn32tab), ("math/bits.deBruijn64tab", Rows.laid_math_bits_deBruijn64tab), ("internal/strconv.uint64pow10", Rows.laid_internal_strconv_uint64pow10), ("strconv.ErrRange", Rows.laid_strconv_ErrRange), ("strconv.ErrSyntax", Rows.laid_strconv_ErrSyntax)]
theorem pow5 {W : World} (h : laidMet Tryd.prog laid5 W) : PowTab W := pow_of_laid h
theorem sentR5 {W : World} (h : laidMet Tryd.prog laid5 W) : Sent W "strconv.ErrRange" := iface_of_laid h.tail.tail.tail Tryd.gER Tryd.tER Tryd.underlying62
theorem sentS5 {W : World} (h : laidMet Tryd.prog laid5 W) : Sent W "strconv.ErrSyntax" := iface_of_laid h.tail.tail.tail.tail Tryd.gES Tryd.tES Tryd.underlying62
end Go.Proofs.YtfajcogkbmefjaaDoor
