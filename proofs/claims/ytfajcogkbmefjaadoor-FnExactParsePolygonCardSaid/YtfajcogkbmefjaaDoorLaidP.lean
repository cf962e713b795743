/-
  What the rows' listed tables give the walks: the table of powers of ten.
-/
import Derived.Test.YtfajcogkbmefjaaDoorFmtI
import Derived.Test.YtfajcogkbmefjaaDoorTie
import Derived.Stop.LaidErr
import Derived.LaidLaws
import Derived.Lib.LaidTab
namespace Go.Proofs.YtfajcogkbmefjaaDoor
open Go.RowKit
theorem pow_of_laid {W : World} {r : List (String × DataW Unit)} (h : laidMet Tryd.prog (("math/bits.deBruijn32tab", Rows.laid_math_bits_deBruijn32tab) :: ("math/bits.deBruijn64tab", Rows.laid_math_bits_deBruijn64tab) :: ("internal/strconv.uint64pow10", Rows.laid_internal_strconv_uint64pow10) :: r) W) : PowTab W :=
  Lib.tabIs_of_head (k := .u64) (zs := Lib.pow10Tab) Tryd.gPow Tryd.tPow Tryd.underlying97 Tryd.underlying82 (by kernel_rfl) (by kernel_rfl) h.tail.tail
end Go.Proofs.YtfajcogkbmefjaaDoor
