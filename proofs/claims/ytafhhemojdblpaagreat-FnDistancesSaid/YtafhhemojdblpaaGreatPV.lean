/-
  The texts PtB, PtV, put together; each has its own heading below. No condition of ours.
-/
import Derived.Test.YtafhhemojdblpaaGreatMem
import Derived.Test.YtafhhemojdblpaaGreatPtM
/-
  Vectors: what is valid.
-/
namespace Go.Proofs.YtafhhemojdblpaaGreat
def vecB (x y:Int):Bool:=decide (-1000≤x∧x≤1000) && decide (-1000≤y∧y≤1000)
end Go.Proofs.YtafhhemojdblpaaGreat
/-
  Variables that a drawn region makes: a fraction, a point.
-/
namespace Go.Proofs.YtafhhemojdblpaaGreat
open Go.RowKit
set_option linter.unusedVariables false
theorem below_set6 {w W:World} {g:Nat} (hb:Below w.heap.size w W) (hg:w.heap.size≤g) (a b c d e f:Value):Below w.heap.size w ((((((W.setCell ⟨g,0,none⟩ a).setCell ⟨g,1,none⟩ b).setCell ⟨g,2,none⟩ c).setCell ⟨g,3,none⟩ d).setCell ⟨g,4,none⟩ e).setCell ⟨g,5,none⟩ f) :=
 (((((hb.setCell (p:=⟨g,0,none⟩) hg _).setCell (p:=⟨g,1,none⟩) hg _).setCell (p:=⟨g,2,none⟩) hg _).setCell (p:=⟨g,3,none⟩) hg _).setCell (p:=⟨g,4,none⟩) hg _).setCell (p:=⟨g,5,none⟩) hg _
/-- a fraction's variable -/
def VarQ (w wx:World) (sx:Value) (Z:RQ) (TB TI:TypeId):Prop :=
 ∃ g v0 v1 v2 lo hi,sx=.pointer (some ⟨g,0,none⟩)∧Box wx g TB #[v0,v1,v2]∧QOwn wx lo hi TI v0 v1 v2 Z∧w.heap.size≤lo∧hi≤wx.heap.size∧w.heap.size≤g∧(g < lo ∨ hi≤g)∧Below w.heap.size w wx
theorem varq_last {w w3:World} {v0 v1 v2:Value} {Z:RQ} {TB TI:TypeId} {lo hi:Nat} (hb:Below w.heap.size w w3) (o:QOwn w3 lo hi TI v0 v1 v2 Z) (hlo:w.heap.size≤lo) (hhi:hi≤w3.heap.size) :
 VarQ w (w3.alloc (.cells #[v0,v1,v2] TB)) (.pointer (some ⟨w3.heap.size,0,none⟩)) Z TB TI :=
 ⟨w3.heap.size,v0,v1,v2,lo,hi,rfl,Box.last _ _ _ rfl,o.below (below_new w3 _) hhi,hlo,by rw [alloc_size];omega,hb.size,.inr hhi,below_alloc hb _⟩
theorem varq_set {w w3:World} {g:Nat} {x y z v0 v1 v2:Value} {Z:RQ} {TB TI:TypeId} {lo hi:Nat} (k:Box w3 g TB #[x,y,z]) (hb:Below w.heap.size w w3) (o:QOwn w3 lo hi TI v0 v1 v2 Z) (hlo:w.heap.size≤lo) (hhi:hi≤w3.heap.size) (hg:w.heap.size≤g) (hgl:g < lo) :
 VarQ w (((w3.setCell ⟨g,0,none⟩ v0).setCell ⟨g,1,none⟩ v1).setCell ⟨g,2,none⟩ v2) (.pointer (some ⟨g,0,none⟩)) Z TB TI :=
 ⟨g,v0,v1,v2,lo,hi,rfl,((k.set 0 _).set 1 _).set 2 _,((o.setv (.inl hgl) 0 _).setv (.inl hgl) 1 _).setv (.inl hgl) 2 _,hlo,by simp only [setCell_size];exact hhi,hg,.inl hgl,((hb.setCell (p:=⟨g,0,none⟩) hg _).setCell (p:=⟨g,1,none⟩) hg _).setCell (p:=⟨g,2,none⟩) hg _⟩
end Go.Proofs.YtafhhemojdblpaaGreat
