/-
  The texts SumP, PolG, put together; each has its own heading below. No condition of ours.
-/
import Derived.Test.YtafhhemojdblpaaGreatHM
import Derived.Test.YtafhhemojdblpaaGreatPC
/-
  Sums of two polygons: how many corners, what lies inside, what separates two polygons.
-/
namespace Go.Proofs.YtafhhemojdblpaaGreat
open Go.RowKit
set_option linter.unusedVariables false
def addV (u v:V2):V2:=(u.1+v.1,u.2+v.2)
def sumV (a b:List V2):List V2:=a.flatMap fun v=>b.map fun w=>addV v w
theorem at_mem {l:List V2} {i:Nat} (h:i < l.length):atV l i ∈ l:=by rw [atV_eq h];exact List.getElem_mem h
section
variable {a b:List V2} (hl:(sumV a b).length≤64) (hv:allV (sumV a b)=true) (h2:2≤(srtV (sumV a b)).length) (h3:3≤(hullV (sumV a b)).length)
include hl hv h2 h3
end
end Go.Proofs.YtafhhemojdblpaaGreat
/-
  Where a whole point lies: ContainsPoint at PointOf.
-/
namespace Go.Proofs.YtafhhemojdblpaaGreat
open Go.RowKit
set_option linter.unusedVariables false
theorem inR_vec {x:Int} (h:-1000≤x) (h':x≤1000):inRc x:=inR_small (by omega)
theorem ratQ_int {x:Int} (h:-1000≤x) (h':x≤1000):ratQ (intQ x)=true:=by
 have hr:=inR_vec h h'
 have hb:=bigB_capC hr
 have e:=capZ_inC hr
 have hN:natB (capZ x).2=true:=by rw [e];exact natB_limbs hr
 have hV:natV (capZ x).2=x.natAbs:=by rw [e];exact natV_limbs _
 have hl:(capZ x).2.length≤24:=by rw [e];exact limbs_len.2 (Nat.lt_of_le_of_lt (show x.natAbs≤1000 by omega) (by decide))
 have h1:natB [1]=true:=by decide
 have h2:natV [1]=1:=by decide
 unfold ratQ intQ ratB
 rw [hb]
 have hg:gcdL (capZ x).2 [1] = [1]:=by rw [gcdL,hN,h1,hV,h2,Nat.gcd_one_right];simp [limbs]
 simp only [hg]
 unfold shortB
 simp [hl]
end Go.Proofs.YtafhhemojdblpaaGreat
