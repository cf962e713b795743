/-
  The program's headings: contracts: TurnsBetween.
-/
import Derived.Test.YtafhhemojdblpaaDoorHedI5
import Derived.Test.YtafhhemojdblpaaDoorHedE
namespace Go.Proofs.YtafhhemojdblpaaDoor
open Go.RowKit
set_option linter.unusedVariables false
set_option maxRecDepth 100000 in
set_option maxHeartbeats 1600000 in
theorem impl_TurnsBetween (w : World) (B : Nat) (hB : B ≤ w.heap.size) (g : Int) (fg : (Lit.int .i64 g).wf = true) (h : Int) (fh : (Lit.int .i64 h).wf = true) (hQ : QTab w) :
    Calls Tryd.prog 8 #[.int .i64 g, .int .i64 h] w fun e w' => ∃ v, e = .returned v ∧ w'.ownsRow w.heap.size 3 1 v (btw g h).length (iv (btw g h)) ∧ Below w.heap.size w w' := by
  have HC1 := hide (impl_isHeading w g)
  have HC2 := hide (impl_isHeading w h)
  by_cases c : 0 ≤ g ∧ g ≤ 3
  case neg =>
    have HN : Hid (btw g h = []) := btw_no fun k => c k.1
    rw [decide_eq_false c] at HC1
    clear hQ
    go_enter Tryd.func8, Tryd.ntmps8
    go_wp2_with fail
    refine HC1.out.mono ?_
    rintro e w1 ⟨rfl, rfl⟩
    go_wp2_with fail
    go_ret
    exact ⟨_, rfl, by rw [HN.out]; exact World.ownsRow_nil _ _ _ _, Below.refl _ _⟩
  rw [decide_eq_true c] at HC1
  by_cases c' : 0 ≤ h ∧ h ≤ 3
  case neg =>
    have HN : Hid (btw g h = []) := btw_no fun k => c' k.2
    rw [decide_eq_false c'] at HC2
    clear hQ
    go_enter Tryd.func8, Tryd.ntmps8
    go_wp2_with fail
    refine HC1.out.mono ?_
    rintro e w1 ⟨rfl, rfl⟩
    go_wp2_with fail
    refine HC2.out.mono ?_
    rintro e w1 ⟨rfl, rfl⟩
    go_wp2_with fail
    go_ret
    exact ⟨_, rfl, by rw [HN.out]; exact World.ownsRow_nil _ _ _ _, Below.refl _ _⟩
  rw [decide_eq_true c'] at HC2
  obtain ⟨p, rfl⟩ : ∃ p : Nat, g = (p : Int) := ⟨g.toNat, by omega⟩
  obtain ⟨q, rfl⟩ : ∃ q : Nat, h = (q : Int) := ⟨h.toNat, by omega⟩
  have hp : p < 4 := by omega
  have hq : q < 4 := by omega
  have HT1 := hide (fun (W : World) (hb : Below w.heap.size w W) => impl_mturned W (qx p).1 (qx p).2 (qy p).1 (qy p).2 1 (hQ.below hb (Nat.le_refl _)))
  have HT2 := hide (fun (W : World) (hb : Below w.heap.size w W) => impl_mturned W (qx p).1 (qx p).2 (qy p).1 (qy p).2 (-1) (hQ.below hb (Nat.le_refl _)))
  obtain ⟨hg, ht⟩ := hQ
  obtain ⟨c0, c1, c2, c3⟩ := ht p hp
  obtain ⟨d0, d1, d2, d3⟩ := ht q hq
  obtain ⟨r0, r1, r2⟩ := rows_dec hp hq
  obtain ⟨wa0, wa1, wa2, wa3⟩ := q_wf hp
  obtain ⟨wb0, wb1, wb2, wb3⟩ := q_wf hq
  have E0 := fun W => eql_mat W _ _ _ _ _ _ _ _ wb0 wb1 wb2 wb3 wa0 wa1 wa2 wa3
  have E1 := fun W => eql_mat W _ _ _ _ _ _ _ _ wb0 wb1 wb2 wb3 (rotW_wf2 (hd 1) ((qx p).1, (qx p).2)).1 (rotW_wf2 (hd 1) ((qx p).1, (qx p).2)).2 (rotW_wf2 (hd 1) ((qy p).1, (qy p).2)).1 (rotW_wf2 (hd 1) ((qy p).1, (qy p).2)).2
  have E2 := fun W => eql_mat W _ _ _ _ _ _ _ _ wb0 wb1 wb2 wb3 (rotW_wf2 (hd (-1)) ((qx p).1, (qx p).2)).1 (rotW_wf2 (hd (-1)) ((qx p).1, (qx p).2)).2 (rotW_wf2 (hd (-1)) ((qy p).1, (qy p).2)).1 (rotW_wf2 (hd (-1)) ((qy p).1, (qy p).2)).2
  rw [r0] at E0
  rw [r1] at E1
  rw [r2] at E2
  clear r0 r1 r2 wa0 wa1 wa2 wa3 wb0 wb1 wb2 wb3 ht
  obtain ⟨d, hd⟩ : ∃ d, ((q : Int) - (p : Int)) % 4 = d := ⟨_, rfl⟩
  have HB := hide (btw_yes c c' hd)
  have hdr : 0 ≤ d ∧ d < 4 := by omega
  rw [hd] at E0 E1 E2
  clear hd
  generalize (rotW (hd 1) ((qx p).1, (qx p).2)).1 = s0 at *
  generalize (rotW (hd 1) ((qx p).1, (qx p).2)).2 = s1 at *
  generalize (rotW (hd 1) ((qy p).1, (qy p).2)).1 = s2 at *
  generalize (rotW (hd 1) ((qy p).1, (qy p).2)).2 = s3 at *
  generalize (rotW (hd (-1)) ((qx p).1, (qx p).2)).1 = z0 at *
  generalize (rotW (hd (-1)) ((qx p).1, (qx p).2)).2 = z1 at *
  generalize (rotW (hd (-1)) ((qy p).1, (qy p).2)).1 = z2 at *
  generalize (rotW (hd (-1)) ((qy p).1, (qy p).2)).2 = z3 at *
  generalize (qx p).1 = a0 at *
  generalize (qx p).2 = a1 at *
  generalize (qy p).1 = a2 at *
  generalize (qy p).2 = a3 at *
  generalize (qx q).1 = b0 at *
  generalize (qx q).2 = b1 at *
  generalize (qy q).1 = b2 at *
  generalize (qy q).2 = b3 at *
  have h5 : (0 : Int) ≤ (q : Int) := Int.natCast_nonneg _
  have h6 : (q : Int) < 4 := by omega
  have h7 : (0 : Int) ≤ (p : Int) := Int.natCast_nonneg _
  have h8 : (p : Int) < 4 := by omega
  rcases (show d = 0 ∨ d = 1 ∨ d = 2 ∨ d = 3 by omega) with rfl | rfl | rfl | rfl
  · replace HB : Hid (btw (p : Int) (q : Int) = []) := HB.out
    rw [show decide ((0 : Int) = 0) = true from rfl] at E0
    rw [show decide ((0 : Int) = 1) = false from rfl] at E1
    rw [show decide ((0 : Int) = 3) = false from rfl] at E2
    clear hdr
    go_enter Tryd.func8, Tryd.ntmps8
    go_wp2_with fail
    refine HC1.out.mono ?_
    rintro e w1 ⟨rfl, rfl⟩
    go_wp2_with fail
    refine HC2.out.mono ?_
    rintro e w1 ⟨rfl, rfl⟩
    obtain ⟨W1, hW1⟩ : ∃ W1, W1 = w.alloc (.cells #[.int .i64 a0, .int .i64 a1, .int .i64 a2, .int .i64 a3] 52) := ⟨_, rfl⟩
    have hb1 : Below w.heap.size w W1 := by rw [hW1]; exact below_new _ _
    have ka : Box W1 w.heap.size 52 #[.int .i64 a0, .int .i64 a1, .int .i64 a2, .int .i64 a3] := by rw [hW1]; exact Box.last _ _ _ rfl
    go_upto_region 4 with fail
    rw [← hW1]
    have d0 := (hb1.cell hg).trans d0
    have d1 := (hb1.cell hg).trans d1
    have d2 := (hb1.cell hg).trans d2
    have d3 := (hb1.cell hg).trans d3
    clear hW1 c0 c1 c2 c3
    obtain ⟨y0, y1, y2, y3⟩ := ka.cells4
    go_wp2_with fail
    go_ret
    refine ⟨_, rfl, ?_, hb1⟩
    rw [HB.out]
    exact World.ownsRow_nil _ _ _ _
  · replace HB : Hid (btw (p : Int) (q : Int) = [1]) := HB.out
    rw [show decide ((1 : Int) = 0) = false from rfl] at E0
    rw [show decide ((1 : Int) = 1) = true from rfl] at E1
    rw [show decide ((1 : Int) = 3) = false from rfl] at E2
    clear hdr
    go_enter Tryd.func8, Tryd.ntmps8
    go_wp2_with fail
    refine HC1.out.mono ?_
    rintro e w1 ⟨rfl, rfl⟩
    go_wp2_with fail
    refine HC2.out.mono ?_
    rintro e w1 ⟨rfl, rfl⟩
    obtain ⟨W1, hW1⟩ : ∃ W1, W1 = w.alloc (.cells #[.int .i64 a0, .int .i64 a1, .int .i64 a2, .int .i64 a3] 52) := ⟨_, rfl⟩
    have hb1 : Below w.heap.size w W1 := by rw [hW1]; exact below_new _ _
    have ka : Box W1 w.heap.size 52 #[.int .i64 a0, .int .i64 a1, .int .i64 a2, .int .i64 a3] := by rw [hW1]; exact Box.last _ _ _ rfl
    go_upto_region 4 with fail
    rw [← hW1]
    have d0 := (hb1.cell hg).trans d0
    have d1 := (hb1.cell hg).trans d1
    have d2 := (hb1.cell hg).trans d2
    have d3 := (hb1.cell hg).trans d3
    clear hW1 c0 c1 c2 c3
    obtain ⟨y0, y1, y2, y3⟩ := ka.cells4
    go_wp2_with fail
    refine (HT1.out _ hb1).mono ?_
    rintro e w2 ⟨rfl, hb2⟩
    have ka := ka.below hb2 ka.lt
    have hb2 := below_then hb1 hb2
    clear y0 y1 y2 y3 d0 d1 d2 d3
    obtain ⟨y0, y1, y2, y3⟩ := ka.cells4
    go_wp2_with fail
    go_ret
    refine ⟨_, rfl, ?_, below_alloc hb2 _⟩
    rw [HB.out]
    exact World.ownsRow_lit (e := 3) (size := 1) _ #[.int .i64 1] 1 hb2.size (by unfold maxLen; omega) rfl
  · replace HB : Hid (btw (p : Int) (q : Int) = [1, 1]) := HB.out
    rw [show decide ((2 : Int) = 0) = false from rfl] at E0
    rw [show decide ((2 : Int) = 1) = false from rfl] at E1
    rw [show decide ((2 : Int) = 3) = false from rfl] at E2
    clear hdr
    go_enter Tryd.func8, Tryd.ntmps8
    go_wp2_with fail
    refine HC1.out.mono ?_
    rintro e w1 ⟨rfl, rfl⟩
    go_wp2_with fail
    refine HC2.out.mono ?_
    rintro e w1 ⟨rfl, rfl⟩
    obtain ⟨W1, hW1⟩ : ∃ W1, W1 = w.alloc (.cells #[.int .i64 a0, .int .i64 a1, .int .i64 a2, .int .i64 a3] 52) := ⟨_, rfl⟩
    have hb1 : Below w.heap.size w W1 := by rw [hW1]; exact below_new _ _
    have ka : Box W1 w.heap.size 52 #[.int .i64 a0, .int .i64 a1, .int .i64 a2, .int .i64 a3] := by rw [hW1]; exact Box.last _ _ _ rfl
    go_upto_region 4 with fail
    rw [← hW1]
    have d0 := (hb1.cell hg).trans d0
    have d1 := (hb1.cell hg).trans d1
    have d2 := (hb1.cell hg).trans d2
    have d3 := (hb1.cell hg).trans d3
    clear hW1 c0 c1 c2 c3
    obtain ⟨y0, y1, y2, y3⟩ := ka.cells4
    go_wp2_with fail
    refine (HT1.out _ hb1).mono ?_
    rintro e w2 ⟨rfl, hb2⟩
    have ka := ka.below hb2 ka.lt
    have hb2 := below_then hb1 hb2
    clear y0 y1 y2 y3 d0 d1 d2 d3
    obtain ⟨y0, y1, y2, y3⟩ := ka.cells4
    go_wp2_with fail
    refine (HT2.out _ hb2).mono ?_
    rintro e w3 ⟨rfl, hb3⟩
    have hb3 := below_then hb2 hb3
    clear y0 y1 y2 y3
    go_wp2_with fail
    go_ret
    refine ⟨_, rfl, ?_, below_alloc hb3 _⟩
    rw [HB.out]
    exact World.ownsRow_lit (e := 3) (size := 1) _ #[.int .i64 1, .int .i64 1] 2 hb3.size (by unfold maxLen; omega) rfl
  · replace HB : Hid (btw (p : Int) (q : Int) = [-1]) := HB.out
    rw [show decide ((3 : Int) = 0) = false from rfl] at E0
    rw [show decide ((3 : Int) = 1) = false from rfl] at E1
    rw [show decide ((3 : Int) = 3) = true from rfl] at E2
    clear hdr
    go_enter Tryd.func8, Tryd.ntmps8
    go_wp2_with fail
    refine HC1.out.mono ?_
    rintro e w1 ⟨rfl, rfl⟩
    go_wp2_with fail
    refine HC2.out.mono ?_
    rintro e w1 ⟨rfl, rfl⟩
    obtain ⟨W1, hW1⟩ : ∃ W1, W1 = w.alloc (.cells #[.int .i64 a0, .int .i64 a1, .int .i64 a2, .int .i64 a3] 52) := ⟨_, rfl⟩
    have hb1 : Below w.heap.size w W1 := by rw [hW1]; exact below_new _ _
    have ka : Box W1 w.heap.size 52 #[.int .i64 a0, .int .i64 a1, .int .i64 a2, .int .i64 a3] := by rw [hW1]; exact Box.last _ _ _ rfl
    go_upto_region 4 with fail
    rw [← hW1]
    have d0 := (hb1.cell hg).trans d0
    have d1 := (hb1.cell hg).trans d1
    have d2 := (hb1.cell hg).trans d2
    have d3 := (hb1.cell hg).trans d3
    clear hW1 c0 c1 c2 c3
    obtain ⟨y0, y1, y2, y3⟩ := ka.cells4
    go_wp2_with fail
    refine (HT1.out _ hb1).mono ?_
    rintro e w2 ⟨rfl, hb2⟩
    have ka := ka.below hb2 ka.lt
    have hb2 := below_then hb1 hb2
    clear y0 y1 y2 y3 d0 d1 d2 d3
    obtain ⟨y0, y1, y2, y3⟩ := ka.cells4
    go_wp2_with fail
    refine (HT2.out _ hb2).mono ?_
    rintro e w3 ⟨rfl, hb3⟩
    have hb3 := below_then hb2 hb3
    clear y0 y1 y2 y3
    go_wp2_with fail
    go_ret
    refine ⟨_, rfl, ?_, below_alloc hb3 _⟩
    rw [HB.out]
    exact World.ownsRow_lit (e := 3) (size := 1) _ #[.int .i64 (-1)] 1 hb3.size (by unfold maxLen; omega) rfl
end Go.Proofs.YtafhhemojdblpaaDoor
