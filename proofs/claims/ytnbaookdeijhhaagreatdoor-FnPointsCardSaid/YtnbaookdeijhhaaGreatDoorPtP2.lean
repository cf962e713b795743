/-
  Points as text: ParsePoint: both sides' contracts.
-/
import Derived.Test.YtnbaookdeijhhaaGreatDoorUT
import Derived.Test.YtnbaookdeijhhaaGreatDoorPtM
import Derived.Test.YtnbaookdeijhhaaGreatDoorLB
import Derived.Test.YtnbaookdeijhhaaGreatDoorRatU1
import Derived.Test.YtnbaookdeijhhaaGreatDoorRatS
import Derived.Test.YtnbaookdeijhhaaGreatDoorBQR
import Derived.Test.YtnbaookdeijhhaaGreatDoorBigQ
import Derived.Test.YtnbaookdeijhhaaGreatDoorPA
import Derived.Test.YtnbaookdeijhhaaGreatDoorRB
import Derived.Test.YtnbaookdeijhhaaGreatDoorSplitP
import Derived.Test.YtnbaookdeijhhaaGreatDoorPB
import Derived.Deep.CutRange
namespace Go.Proofs.YtnbaookdeijhhaaGreatDoor
open Go.RowKit
set_option linter.unusedVariables false
/-- a point of one's own, and whether it was one -/
def PtRes (TI : TypeId) (w w' : World) (e : Ending) (ok : Bool) (P : PQ) : Prop :=
  ∃ v0 v1 v2 v3 v4 v5, e = .returned (.tuple #[.agg #[v0, v1, v2, v3, v4, v5], .bool ok]) ∧ POwn w' w.heap.size w'.heap.size TI v0 v1 v2 v3 v4 v5 P ∧ Below w.heap.size w w'
/-- a fraction of one's own, and whether it was one -/
def RtRes (TI : TypeId) (w w' : World) (e : Ending) (ok : Bool) (Z : RQ) : Prop :=
  ∃ v0 v1 v2, e = .returned (.tuple #[.agg #[v0, v1, v2], .bool ok]) ∧ QOwn w' w.heap.size w'.heap.size TI v0 v1 v2 Z ∧ Below w.heap.size w w'
theorem RtRes.of {TI : TypeId} {w w' : World} {e : Ending} {s : ByteArray} (h : ParsRes TI w w' e s) : RtRes TI w w' e (okRB s) (parR s) := by
  obtain ⟨v, d, rfl, hp, hb⟩ := h
  exact ⟨_, v, d, rfl, ⟨rfl, hp⟩, hb⟩
theorem ptRes {TI : TypeId} {w w' : World} {e : Ending} {ok k : Bool} {P Q : PQ} {v0 v1 v2 v3 v4 v5 : Value} (hk : ok = k) (hP : P = Q) (he : e = .returned (.tuple #[.agg #[v0, v1, v2, v3, v4, v5], .bool k])) (ho : POwn w' w.heap.size w'.heap.size TI v0 v1 v2 v3 v4 v5 Q) (hb : Below w.heap.size w w') : PtRes TI w w' e ok P := by
  subst hk; subst hP; exact ⟨_, _, _, _, _, _, he, ho, hb⟩
set_option maxRecDepth 100000 in
set_option maxHeartbeats 6400000 in
theorem impl_ParsePoint (w : World) (s : ByteArray) (hm : s.size ≤ 1048576) (hPT : PowTab w) (ml : Int) (hML : w.cell? ⟨0, 0, none⟩ = some (.int .i64 ml)) (hg0 : 0 < w.heap.size) :
    Calls Tryz.prog 21 #[.string s] w fun e w' => PtRes 3 w w' e (okP s) (parP s) := by
  obtain ⟨W0, hW0⟩ : ∃ W0, W0 = (w.alloc (.cells #[.bool false, .slice none 0 0, .slice none 0 0, .bool false, .slice none 0 0, .slice none 0 0] 38)) := ⟨_, rfl⟩
  have hT0 : Below w.heap.size w W0 := by rw [hW0]; exact below_new _ _
  have kr : Box W0 (w.heap.size) 38 #[.bool false, .slice none 0 0, .slice none 0 0, .bool false, .slice none 0 0, .slice none 0 0] := by rw [hW0]; exact Box.last _ _ _ rfl
  have hs0 : W0.heap.size = w.heap.size + 1 := by rw [hW0, alloc_size]
  have hh : (headBC s).size ≤ 1048576 := by have := (head_leC s).1; omega
  have hd : (tailBC s).size ≤ 1048576 := by have := (head_leC s).2; omega
  have hml0 : W0.cell? ⟨0, 0, none⟩ = some (.int .i64 ml) := (hT0.cell hg0).trans hML
  have hgl : 0 < W0.heap.size := Nat.lt_of_lt_of_le hg0 hT0.size
  have HCUT : Hid (Calls Tryz.prog 39 #[.string s, .string ⟨#[44]⟩] W0 fun e w' => e = .returned (.tuple #[.string (headBC s), .string (tailBC s), .bool (hasBC s)]) ∧ Below W0.heap.size W0 w') := (Tryz.strings_Cut s ⟨#[44]⟩ ml W0 (by omega) hml0).mono fun e w' h => ⟨h.1, by obtain ⟨_, n, hn⟩ := h; rw [hn]; exact below_drewNT (Below.refl _ _) n⟩
  have HOK : Hid (okP s = (okRB (headBC s) && okRB (tailBC s))) := rfl
  have HPV : Hid (parP s = if okP s then (parR (headBC s), parR (tailBC s)) else (noR, noR)) := rfl
  have hfx := parR_fit (headBC s)
  have hfy := parR_fit (tailBC s)
  have PT0 := hPT.below hT0 hPT.lt
  have PL := PT0.lt
  have HC1 := hide (fun (W : World) (h : Below W0.heap.size W0 W) => (impl_ParseRat W W.heap.size (Nat.le_refl _) (headBC s) hh (PT0.below h PL) ml ((h.cell hgl).trans hml0) (Nat.lt_of_lt_of_le hgl h.size)).mono fun e w' h => RtRes.of h)
  have HC2 := hide (fun (W : World) (h : Below W0.heap.size W0 W) => (impl_ParseRat W W.heap.size (Nat.le_refl _) (tailBC s) hd (PT0.below h PL) ml ((h.cell hgl).trans hml0) (Nat.lt_of_lt_of_le hgl h.size)).mono fun e w' h => RtRes.of h)
  clear hml0 hML hPT PT0 PL hgl
  generalize okP s = OK at HOK HPV ⊢
  generalize parP s = PV at HPV ⊢
  generalize hasBC s = HB at HCUT
  generalize headBC s = H at *
  generalize tailBC s = TL at *
  generalize parR H = ZX at *
  generalize parR TL = ZY at *
  generalize okRB H = b1 at *
  generalize okRB TL = b2 at *
  clear hh hd hm
  go_enter Tryz.func21, Tryz.ntmps21
  go_upto_region 1 with fail
  rw [← hW0]
  clear hW0
  go_wp2_with fail
  refine (HCUT.out).mono ?_
  rintro e w1 ⟨rfl, hb1⟩
  have hs1 := hb1.size
  have hT1 := below_then hT0 hb1
  have kr := kr.below hb1 kr.lt
  clear hT0
  have hq1 := hb1
  clear hb1
  go_wp2_with fail
  refine (HC1.out _ hq1).mono ?_
  rintro e w2 ⟨fx0, fx1, fx2, rfl, ofx, hb2⟩
  obtain ⟨fxb, fxA, fxn, fxc, fxD, fxm, fxk, rfl, rfl, rfl⟩ := ofx.cut
  have hs2 := hb2.size
  have hT2 := below_then hT1 hb2
  have kr := kr.below hb2 kr.lt
  clear hT1
  have hq2 := below_then hq1 hb2
  clear hb2 hq1
  obtain ⟨w3, hw3⟩ : ∃ xw, xw = (w2.alloc (.cells #[.bool fxb, .slice fxA fxn fxc, .slice fxD fxm fxk] 27)) := ⟨_, rfl⟩
  have hb3 : Below w2.heap.size w2 w3 := by rw [hw3]; exact below_new _ _
  have hz3 : w3.heap.size = w2.heap.size + 1 := by rw [hw3, alloc_size]
  have kfx : Box w3 (w2.heap.size) 27 #[.bool fxb, .slice fxA fxn fxc, .slice fxD fxm fxk] := by rw [hw3]; exact Box.last _ _ _ (by omega)
  have hs3 := hb3.size
  have hT3 := below_then hT2 hb3
  have kr := kr.below hb3 kr.lt
  have ofx := ofx.below hb3 (by omega)
  clear hT2
  go_upto_region 3 with fail
  rw [← hw3]
  have hq3 := below_then hq2 hb3
  clear hw3 hb3 hq2
  go_wp2_with fail
  refine (HC2.out _ hq3).mono ?_
  rintro e w4 ⟨fy0, fy1, fy2, rfl, ofy, hb4⟩
  obtain ⟨fyb, fyA, fyn, fyc, fyD, fym, fyk, rfl, rfl, rfl⟩ := ofy.cut
  have hs4 := hb4.size
  have hT4 := below_then hT3 hb4
  have kr := kr.below hb4 kr.lt
  have kfx := kfx.below hb4 kfx.lt
  have ofx := ofx.below hb4 (by omega)
  clear hT3
  clear hb4
  clear hq3
  obtain ⟨w5, hw5⟩ : ∃ xw, xw = (w4.alloc (.cells #[.bool fyb, .slice fyA fyn fyc, .slice fyD fym fyk] 27)) := ⟨_, rfl⟩
  have hb5 : Below w4.heap.size w4 w5 := by rw [hw5]; exact below_new _ _
  have hq5 : w5.heap.size = w4.heap.size + 1 := by rw [hw5, alloc_size]
  have kfy : Box w5 (w4.heap.size) 27 #[.bool fyb, .slice fyA fyn fyc, .slice fyD fym fyk] := by rw [hw5]; exact Box.last _ _ _ (by omega)
  have hs5 := hb5.size
  have hT5 := below_then hT4 hb5
  have kr := kr.below hb5 kr.lt
  have kfx := kfx.below hb5 kfx.lt
  have ofx := ofx.below hb5 (by omega)
  have ofy := ofy.below hb5 (by omega)
  clear hT4
  go_upto_region 4 with fail
  rw [← hw5]
  clear hw5 hb5
  cases b1
  · have OP := POwn.zero w5 (w.heap.size + 1) (w.heap.size + 1) 3 (Nat.le_refl _)
    have HO := hide (ret_pt kr OP hT5 (Nat.le_refl _) (by omega) (by omega) (.inl (by omega)))
    obtain ⟨⟨yr0, yr1, yr2, yr3, yr4, yr5⟩, zr0, zr1, zr2, zr3, zr4, zr5⟩ := kr.facts6
    clear kr OP kfx kfy ofx ofy
    go_wp2_with fail
    refine bodyPost_ret (results_cell_tmp rfl _ _ (w.heap.size) _ #[.bool false, .slice none 0 0, .slice none 0 0, .bool false, .slice none 0 0, .slice none 0 0] (0, 0) _ rfl HO.out.1 Tryz.underlying38 rfl Tryz.sizePoint) rfl ?_
    exact ptRes HOK.out (by obtain rfl : OK = false := HOK.out; exact HPV.out) rfl HO.out.2.1 HO.out.2.2
  · cases b2
    · have OP := POwn.zero w5 (w.heap.size + 1) (w.heap.size + 1) 3 (Nat.le_refl _)
      have HO := hide (ret_pt kr OP hT5 (Nat.le_refl _) (by omega) (by omega) (.inl (by omega)))
      obtain ⟨⟨yr0, yr1, yr2, yr3, yr4, yr5⟩, zr0, zr1, zr2, zr3, zr4, zr5⟩ := kr.facts6
      clear kr OP kfx kfy ofx ofy
      go_wp2_with fail
      refine bodyPost_ret (results_cell_tmp rfl _ _ (w.heap.size) _ #[.bool false, .slice none 0 0, .slice none 0 0, .bool false, .slice none 0 0, .slice none 0 0] (0, 0) _ rfl HO.out.1 Tryz.underlying38 rfl Tryz.sizePoint) rfl ?_
      exact ptRes HOK.out (by obtain rfl : OK = false := HOK.out; exact HPV.out) rfl HO.out.2.1 HO.out.2.2
    · have OP : POwn w5 (w.heap.size + 1) w5.heap.size 3 (.bool fxb) (.slice fxA fxn fxc) (.slice fxD fxm fxk) (.bool fyb) (.slice fyA fyn fyc) (.slice fyD fym fyk) (ZX, ZY) := ⟨_, _, _, _, ofx, ofy, by omega, by omega, by omega, by omega, .inl (by omega)⟩
      obtain ⟨yfx0, yfx1, yfx2⟩ := kfx.cells3
      obtain ⟨yfy0, yfy1, yfy2⟩ := kfy.cells3
      have HO := hide (ret_pt kr OP hT5 (Nat.le_refl _) (by omega) (by omega) (.inl (by omega)))
      obtain ⟨⟨yr0, yr1, yr2, yr3, yr4, yr5⟩, zr0, zr1, zr2, zr3, zr4, zr5⟩ := kr.facts6
      clear kr OP kfx kfy ofx ofy
      go_wp2_with fail
      refine bodyPost_ret (results_cell_tmp rfl _ _ (w.heap.size) _ #[.bool fxb, .slice fxA fxn fxc, .slice fxD fxm fxk, .bool fyb, .slice fyA fyn fyc, .slice fyD fym fyk] (0, 0) _ rfl HO.out.1 Tryz.underlying38 rfl Tryz.sizePoint) rfl ?_
      exact ptRes HOK.out (by obtain rfl : OK = true := HOK.out; exact HPV.out) rfl HO.out.2.1 HO.out.2.2
end Go.Proofs.YtnbaookdeijhhaaGreatDoor
