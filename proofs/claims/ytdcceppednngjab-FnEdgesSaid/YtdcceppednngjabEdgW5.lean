/-
  The walk of the law of edges.
-/
import Derived.Test.YtdcceppednngjabEdgH
import Derived.Test.YtdcceppednngjabEdgE
import Derived.Test.YtdcceppednngjabPT
import Derived.Deep.RegionHeld3
import Derived.Deep.CutRange
import Derived.Sort.AtCall
namespace Go.Proofs.Ytdcceppednngjab
open Go.RowKit
set_option linter.unusedVariables false
theorem MakeEdge0 (n c B : Nat) (A : Option Addr) (w : World) (hn : n ≤ 1099511627776) (hb : Bytes w B A n) (hB : B ≤ w.heap.size) :
    Calls Try.prog 4 #[.slice A n c, .int .i64 0] w fun e w' => ∃ (x y u v : Int) (l : Bool), e = .returned (.agg #[.int .i64 x, .int .i64 y, .int .i64 u, .int .i64 v, .int .i64 0, .bool l]) ∧ edgeB x y u v = true ∧ Below w.heap.size w w' :=
  MakeEdge_s n c B A 0 (by omega) w hn hb hB
theorem MakeEdge1 (n c B : Nat) (A : Option Addr) (w : World) (hn : n ≤ 1099511627776) (hb : Bytes w B A n) (hB : B ≤ w.heap.size) :
    Calls Try.prog 4 #[.slice A n c, .int .i64 1] w fun e w' => ∃ (x y u v : Int) (l : Bool), e = .returned (.agg #[.int .i64 x, .int .i64 y, .int .i64 u, .int .i64 v, .int .i64 0, .bool l]) ∧ edgeB x y u v = true ∧ Below w.heap.size w w' :=
  MakeEdge_s n c B A 1 (by omega) w hn hb hB
set_option maxRecDepth 100000 in
set_option maxHeartbeats 16000000 in
theorem FnEdges_walk (w : World) (a0 : Option Addr) (len0 cap0 : Nat) (z0 : List Int) (h0 : IsRow .u8 w a0 len0 cap0 z0) :
    Calls Try.prog 3 #[.slice a0 len0 cap0] w fun e w' => e = .returned (.bool true) ∧ Below w.heap.size w w' := by
  obtain ⟨hby, hlm⟩ := h0.bytes
  clear h0
  unfold maxLen at hlm
  by_cases h : 1048576 < len0
  · clear hby
    go_enter Try.func3, Try.ntmps3
    go_wp2_with fail
    go_ret
    exact ⟨rfl, Below.refl _ _⟩
  have hl : len0 ≤ 1048576 := by omega
  clear h hlm
  have hT0 : Below w.heap.size w w := Below.refl _ _
  have HBY := hide hby
  clear hby
  go_enter Try.func3, Try.ntmps3
  go_wp2_with fail
  refine (MakeEdge0 len0 cap0 w.heap.size a0 w (by omega) (HBY.out.below hT0) hT0.size).mono ?_
  rintro e w1 ⟨ex, ey, eu, ev, el, rfl, heE, hb1⟩
  have hs1 := hb1.size
  have hT1 := below_then hT0 hb1
  clear hT0
  clear hb1
  obtain ⟨w2, hw2⟩ : ∃ xw, xw = (w1.alloc (.cells #[.int .i64 ex, .int .i64 ey, .int .i64 eu, .int .i64 ev, .int .i64 0, .bool el] 26)) := ⟨_, rfl⟩
  have hb2 : Below w1.heap.size w1 w2 := by rw [hw2]; exact below_new _ _
  have hq2 : w2.heap.size = w1.heap.size + 1 := by rw [hw2, alloc_size]
  have ke : Box w2 (w1.heap.size) 26 #[.int .i64 ex, .int .i64 ey, .int .i64 eu, .int .i64 ev, .int .i64 0, .bool el] := by rw [hw2]; exact Box.last _ _ _ (by omega)
  have hs2 := hb2.size
  have hT2 := below_then hT1 hb2
  clear hT1
  go_upto_region 4 with fail
  rw [← hw2]
  clear hw2 hb2
  go_wp2_with fail
  refine (MakeEdge1 len0 cap0 w.heap.size a0 w2 (by omega) (HBY.out.below hT2) hT2.size).mono ?_
  rintro e w3 ⟨fx, fy, fu, fv, fl, rfl, hfE, hb3⟩
  have hs3 := hb3.size
  have hT3 := below_then hT2 hb3
  have ke := ke.below hb3 ke.lt
  clear hT2
  clear hb3
  obtain ⟨w4, hw4⟩ : ∃ xw, xw = (w3.alloc (.cells #[.int .i64 fx, .int .i64 fy, .int .i64 fu, .int .i64 fv, .int .i64 0, .bool fl] 26)) := ⟨_, rfl⟩
  have hb4 : Below w3.heap.size w3 w4 := by rw [hw4]; exact below_new _ _
  have hq4 : w4.heap.size = w3.heap.size + 1 := by rw [hw4, alloc_size]
  have kf : Box w4 (w3.heap.size) 26 #[.int .i64 fx, .int .i64 fy, .int .i64 fu, .int .i64 fv, .int .i64 0, .bool fl] := by rw [hw4]; exact Box.last _ _ _ (by omega)
  have hs4 := hb4.size
  have hT4 := below_then hT3 hb4
  have ke := ke.below hb4 ke.lt
  clear hT3
  go_upto_region 5 with fail
  rw [← hw4]
  clear hw4 hb4
  have he' := edge_iff.1 heE
  have hex : (Lit.int .i64 ex).wf = true := wf_i64E (by omega)
  have hey : (Lit.int .i64 ey).wf = true := wf_i64E (by omega)
  have heu : (Lit.int .i64 eu).wf = true := wf_i64E (by omega)
  have hev : (Lit.int .i64 ev).wf = true := wf_i64E (by omega)
  have hf' := edge_iff.1 hfE
  have hfx : (Lit.int .i64 fx).wf = true := wf_i64E (by omega)
  have hfy : (Lit.int .i64 fy).wf = true := wf_i64E (by omega)
  have hfu : (Lit.int .i64 fu).wf = true := wf_i64E (by omega)
  have hfv : (Lit.int .i64 fv).wf = true := wf_i64E (by omega)
  have HC1 := hide (fun (W : World) => impl_CrossingX W ex ey eu ev 0 el hex hey heu hev fx fy fu fv 0 fl hfx hfy hfu hfv)
  have HC2 := hide (fun (W : World) => impl_CrossingX W fx fy fu fv 0 fl hfx hfy hfu hfv ex ey eu ev 0 el hex hey heu hev)
  rw [(crs_flip heE hfE).1, (crs_flip heE hfE).2] at HC2
  have HX : Hid (crsB ex ey eu ev fx fy fu fv = true → ratQ (crossQ ex ey eu ev fx fy fu fv) = true ∧ hgtI fx fy fu fv (crossQ ex ey eu ev fx fy fu fv) = hgtI ex ey eu ev (crossQ ex ey eu ev fx fy fu fv)) := fun h => by
    unfold crossQ
    rw [if_pos h]
    exact ⟨(crs_hgt heE hfE h).1, (crs_hgt heE hfE h).2.1.symm⟩
  have HFZ : Hid (QFit (crossQ ex ey eu ev fx fy fu fv)) := by show _; unfold crossQ; exact fit_ite (ofQ_fit _ _) noR_fit
  have HFG : Hid (QFit (hgtI ex ey eu ev (crossQ ex ey eu ev fx fy fu fv))) := lowR_fit _ _
  have HHe := hide (fun (W : World) (v0 v1 v2 : Value) (r : QIn W W.heap.size v0 v1 v2 (crossQ ex ey eu ev fx fy fu fv)) (hx : ratQ (crossQ ex ey eu ev fx fy fu fv) = true) => impl_HeightAt W W.heap.size (Nat.le_refl _) ex ey eu ev 0 el hex hey heu hev r heE hx)
  have HHf := hide (fun (W : World) (v0 v1 v2 : Value) (r : QIn W W.heap.size v0 v1 v2 (crossQ ex ey eu ev fx fy fu fv)) (hx : ratQ (crossQ ex ey eu ev fx fy fu fv) = true) => impl_HeightAt W W.heap.size (Nat.le_refl _) fx fy fu fv 0 fl hfx hfy hfu hfv r hfE hx)
  generalize hgtI ex ey eu ev (crossQ ex ey eu ev fx fy fu fv) = GE at *
  generalize hgtI fx fy fu fv (crossQ ex ey eu ev fx fy fu fv) = GF at *
  generalize crsB ex ey eu ev fx fy fu fv = RB at *
  generalize crossQ ex ey eu ev fx fy fu fv = RZ at *
  have HI1 := hide (fun (W : World) => impl_intQ W ex hex)
  have HI2 := hide (fun (W : World) => impl_intQ W ey hey)
  have HI3 := hide (fun (W : World) => impl_intQ W eu heu)
  have HV := hide (fun (W : World) => impl_IsValidEdge W ex ey eu ev 0 el hex hey heu hev)
  rw [heE] at HV
  have HHa := hide (fun (W : World) (v0 v1 v2 : Value) (r : QIn W W.heap.size v0 v1 v2 (intQ ex)) => impl_HeightAt W W.heap.size (Nat.le_refl _) ex ey eu ev 0 el hex hey heu hev r heE (int_V he'.1.1).ok)
  rw [end_hgt heE] at HHa
  have HSp := hide (fun (W : World) (v0 v1 v2 u0 u1 u2 : Value) (r : QIn W W.heap.size v0 v1 v2 (intQ ex)) (r' : QIn W W.heap.size u0 u1 u2 (intQ eu)) => impl_SpansX W W.heap.size (Nat.le_refl _) ex ey eu ev 0 el hex hey heu hev r r')
  rw [end_span heE] at HSp
  have HLv := hide (fun (W : World) => impl_LevelX W ex ey eu ev 0 el hex hey heu hev ey hey)
  rw [(end_lvl heE).1] at HLv
  have HLq : Hid (ey ≠ ev → lvlQ ex ey eu ev ey = intQ ex) := (end_lvl heE).2
  have HFL : Hid (QFit (lvlQ ex ey eu ev ey)) := by show _; unfold lvlQ crossQ; exact fit_ite (ofQ_fit _ _) noR_fit
  generalize lvlQ ex ey eu ev ey = RL at *
  have hsq : ∀ Z : RQ, sameQ Z Z = true := fun Z => sameR_self Z
  have HEQ := hide (fun (W : World) (Z : RQ) (v0 v1 v2 u0 u1 u2 : Value) (r : QIn W W.heap.size v0 v1 v2 Z) (r' : QIn W W.heap.size u0 u1 u2 Z) => (by have h := impl_sameQ W W.heap.size (Nat.le_refl _) r r'; rw [hsq] at h; exact h : Calls Try.prog 6 #[.agg #[v0, v1, v2], .agg #[u0, u1, u2]] W fun e w' => e = .returned (.bool true) ∧ Below W.heap.size W w'))
  clear hsq heE hfE he' hf' hex hey heu hev hfx hfy hfu hfv
  obtain ⟨ye0, ye1, ye2, ye3, ye4, ye5⟩ := ke.cells6
  obtain ⟨yf0, yf1, yf2, yf3, yf4, yf5⟩ := kf.cells6
  go_wp2_with fail
  refine (HC1.out w4).mono ?_
  rintro e w5 ⟨x0, x1, x2, rfl, ox, hb5⟩
  clear ye0 ye1 ye2 ye3 ye4 ye5 yf0 yf1 yf2 yf3 yf4 yf5
  obtain ⟨xb, xA, xn, xc, xD, xm, xk, rfl, rfl, rfl⟩ := ox.cut
  have hs5 := hb5.size
  have hT5 := below_then hT4 hb5
  have ke := ke.below hb5 ke.lt
  have kf := kf.below hb5 kf.lt
  clear hT4
  clear hb5
  obtain ⟨w6, hw6⟩ : ∃ xw, xw = (w5.alloc (.cells #[.bool xb, .slice xA xn xc, .slice xD xm xk] 32)) := ⟨_, rfl⟩
  have hb6 : Below w5.heap.size w5 w6 := by rw [hw6]; exact below_new _ _
  have hq6 : w6.heap.size = w5.heap.size + 1 := by rw [hw6, alloc_size]
  have kx : Box w6 (w5.heap.size) 32 #[.bool xb, .slice xA xn xc, .slice xD xm xk] := by rw [hw6]; exact Box.last _ _ _ (by omega)
  have hs6 := hb6.size
  have hT6 := below_then hT5 hb6
  have ke := ke.below hb6 ke.lt
  have kf := kf.below hb6 kf.lt
  have ox := ox.below hb6 (by omega)
  clear hT5
  go_upto_region 6 with fail
  rw [← hw6]
  clear hw6 hb6
  obtain ⟨yf0, yf1, yf2, yf3, yf4, yf5⟩ := kf.cells6
  obtain ⟨ye0, ye1, ye2, ye3, ye4, ye5⟩ := ke.cells6
  go_wp2_with fail
  refine (HC2.out w6).mono ?_
  rintro e w7 ⟨y0, y1, y2, rfl, oy, hb7⟩
  clear yf0 yf1 yf2 yf3 yf4 yf5 ye0 ye1 ye2 ye3 ye4 ye5
  obtain ⟨yb, yA, yn, yc, yD, ym, yk, rfl, rfl, rfl⟩ := oy.cut
  have hs7 := hb7.size
  have hT7 := below_then hT6 hb7
  have ke := ke.below hb7 ke.lt
  have kf := kf.below hb7 kf.lt
  have kx := kx.below hb7 kx.lt
  have ox := ox.below hb7 (by omega)
  clear hT6
  clear hb7
  obtain ⟨w8, hw8⟩ : ∃ xw, xw = (w7.alloc (.cells #[.bool yb, .slice yA yn yc, .slice yD ym yk] 32)) := ⟨_, rfl⟩
  have hb8 : Below w7.heap.size w7 w8 := by rw [hw8]; exact below_new _ _
  have hq8 : w8.heap.size = w7.heap.size + 1 := by rw [hw8, alloc_size]
  have ky : Box w8 (w7.heap.size) 32 #[.bool yb, .slice yA yn yc, .slice yD ym yk] := by rw [hw8]; exact Box.last _ _ _ (by omega)
  have hs8 := hb8.size
  have hT8 := below_then hT7 hb8
  have ke := ke.below hb8 ke.lt
  have kf := kf.below hb8 kf.lt
  have kx := kx.below hb8 kx.lt
  have ox := ox.below hb8 (by omega)
  have oy := oy.below hb8 (by omega)
  clear hT7
  go_upto_region 7 with fail
  rw [← hw8]
  clear hw8 hb8
  have HQx := hide (fun (W : World) (h : Below w8.heap.size w8 W) => (((ox.in_ HFZ.out (by omega)).below h).wider h.size : QIn W W.heap.size (.bool xb) (.slice xA xn xc) (.slice xD xm xk) RZ))
  have HQy := hide (fun (W : World) (h : Below w8.heap.size w8 W) => (((oy.in_ HFZ.out (by omega)).below h).wider h.size : QIn W W.heap.size (.bool yb) (.slice yA yn yc) (.slice yD ym yk) RZ))
  clear ox oy
  cases RB with
  | false =>
    have HBe := hide ke
    have HBf := hide kf
    have HBx := hide kx
    have HBy := hide ky
    have HS0 : Hid (Below w8.heap.size w8 w8.drew) := (Below.refl _ _).drew
    have HKS := hide (fun (W : World) (hq : Below w8.heap.size w8 W) => (⟨(HBe.out.below hq HBe.out.lt).cell 0, (HBe.out.below hq HBe.out.lt).cell 1, (HBe.out.below hq HBe.out.lt).cell 2, (HBe.out.below hq HBe.out.lt).cell 3, (HBe.out.below hq HBe.out.lt).cell 4, (HBe.out.below hq HBe.out.lt).cell 5, (HBf.out.below hq HBf.out.lt).cell 0, (HBf.out.below hq HBf.out.lt).cell 1, (HBf.out.below hq HBf.out.lt).cell 2, (HBf.out.below hq HBf.out.lt).cell 3, (HBf.out.below hq HBf.out.lt).cell 4, (HBf.out.below hq HBf.out.lt).cell 5, (HBx.out.below hq HBx.out.lt).cell 0, (HBx.out.below hq HBx.out.lt).cell 1, (HBx.out.below hq HBx.out.lt).cell 2, (HBy.out.below hq HBy.out.lt).cell 0, (HBy.out.below hq HBy.out.lt).cell 1, (HBy.out.below hq HBy.out.lt).cell 2⟩ : W.cell? ⟨w1.heap.size, 0, none⟩ = some (.int .i64 ex) ∧ W.cell? ⟨w1.heap.size, 1, none⟩ = some (.int .i64 ey) ∧ W.cell? ⟨w1.heap.size, 2, none⟩ = some (.int .i64 eu) ∧ W.cell? ⟨w1.heap.size, 3, none⟩ = some (.int .i64 ev) ∧ W.cell? ⟨w1.heap.size, 4, none⟩ = some (.int .i64 0) ∧ W.cell? ⟨w1.heap.size, 5, none⟩ = some (.bool el) ∧ W.cell? ⟨w3.heap.size, 0, none⟩ = some (.int .i64 fx) ∧ W.cell? ⟨w3.heap.size, 1, none⟩ = some (.int .i64 fy) ∧ W.cell? ⟨w3.heap.size, 2, none⟩ = some (.int .i64 fu) ∧ W.cell? ⟨w3.heap.size, 3, none⟩ = some (.int .i64 fv) ∧ W.cell? ⟨w3.heap.size, 4, none⟩ = some (.int .i64 0) ∧ W.cell? ⟨w3.heap.size, 5, none⟩ = some (.bool fl) ∧ W.cell? ⟨w5.heap.size, 0, none⟩ = some (.bool xb) ∧ W.cell? ⟨w5.heap.size, 1, none⟩ = some (.slice xA xn xc) ∧ W.cell? ⟨w5.heap.size, 2, none⟩ = some (.slice xD xm xk) ∧ W.cell? ⟨w7.heap.size, 0, none⟩ = some (.bool yb) ∧ W.cell? ⟨w7.heap.size, 1, none⟩ = some (.slice yA yn yc) ∧ W.cell? ⟨w7.heap.size, 2, none⟩ = some (.slice yD ym yk)))
    obtain ⟨ye0, ye1, ye2, ye3, ye4, ye5⟩ := ke.cells6
    obtain ⟨yf0, yf1, yf2, yf3, yf4, yf5⟩ := kf.cells6
    obtain ⟨yx0, yx1, yx2⟩ := kx.cells3
    obtain ⟨yy0, yy1, yy2⟩ := ky.cells3
    refine wp_region_held_drew (S := (fun w' => w'.cell? ⟨w1.heap.size, 0, none⟩ = some (.int .i64 ex) ∧ w'.cell? ⟨w1.heap.size, 1, none⟩ = some (.int .i64 ey) ∧ w'.cell? ⟨w1.heap.size, 2, none⟩ = some (.int .i64 eu) ∧ w'.cell? ⟨w1.heap.size, 3, none⟩ = some (.int .i64 ev) ∧ w'.cell? ⟨w1.heap.size, 4, none⟩ = some (.int .i64 0) ∧ w'.cell? ⟨w1.heap.size, 5, none⟩ = some (.bool el) ∧ w'.cell? ⟨w3.heap.size, 0, none⟩ = some (.int .i64 fx) ∧ w'.cell? ⟨w3.heap.size, 1, none⟩ = some (.int .i64 fy) ∧ w'.cell? ⟨w3.heap.size, 2, none⟩ = some (.int .i64 fu) ∧ w'.cell? ⟨w3.heap.size, 3, none⟩ = some (.int .i64 fv) ∧ w'.cell? ⟨w3.heap.size, 4, none⟩ = some (.int .i64 0) ∧ w'.cell? ⟨w3.heap.size, 5, none⟩ = some (.bool fl) ∧ w'.cell? ⟨w5.heap.size, 0, none⟩ = some (.bool xb) ∧ w'.cell? ⟨w5.heap.size, 1, none⟩ = some (.slice xA xn xc) ∧ w'.cell? ⟨w5.heap.size, 2, none⟩ = some (.slice xD xm xk) ∧ w'.cell? ⟨w7.heap.size, 0, none⟩ = some (.bool yb) ∧ w'.cell? ⟨w7.heap.size, 1, none⟩ = some (.slice yA yn yc) ∧ w'.cell? ⟨w7.heap.size, 2, none⟩ = some (.slice yD ym yk))) (by kernel_rfl) (HKS.out _ HS0.out) (fun hHeld => ?_)
    show wpAnyH _ _ _ _ _ 22 _ _ _
    refine takeTF (i := 0) (t := 31) (v := ?_) rfl (by kernel_rfl) (by kernel_rfl) (by kernel_rfl) (fun _ _ _ h => h) rfl (by rfl) ?_ hHeld ?_
    rotate_left 1
    · intro w hSw; (try dsimp only at hSw); go_simp; with_reducible rfl
    simp only [List.setIfInBounds_toArray, List.set_cons_zero, List.set_cons_succ]
    refine takeTF (i := 1) (t := 32) (v := ?_) rfl (by kernel_rfl) (by kernel_rfl) (by kernel_rfl) (fun _ _ _ h => h) rfl (by rfl) ?_ hHeld ?_
    rotate_left 1
    · intro w hSw; (try dsimp only at hSw); go_simp; with_reducible rfl
    simp only [List.setIfInBounds_toArray, List.set_cons_zero, List.set_cons_succ]
    refine takeTF (i := 2) (t := 33) (v := ?_) rfl (by kernel_rfl) (by kernel_rfl) (by kernel_rfl) (fun _ _ _ h => h) rfl (by rfl) ?_ hHeld ?_
    rotate_left 1
    · intro w hSw; (try dsimp only at hSw); go_simp; with_reducible rfl
    simp only [List.setIfInBounds_toArray, List.set_cons_zero, List.set_cons_succ]
    refine takeTF (i := 3) (t := 34) (v := ?_) rfl (by kernel_rfl) (by kernel_rfl) (by kernel_rfl) (fun _ _ _ h => h) rfl (by rfl) ?_ hHeld ?_
    rotate_left 1
    · intro w hSw; (try dsimp only at hSw); go_simp; with_reducible rfl
    simp only [List.setIfInBounds_toArray, List.set_cons_zero, List.set_cons_succ]
    refine takeTF (i := 4) (t := 35) (v := ?_) rfl (by kernel_rfl) (by kernel_rfl) (by kernel_rfl) (fun _ _ _ h => h) rfl (by rfl) ?_ hHeld ?_
    rotate_left 1
    · intro w hSw; (try dsimp only at hSw); go_simp; with_reducible rfl
    simp only [List.setIfInBounds_toArray, List.set_cons_zero, List.set_cons_succ]
    refine takeTF (i := 5) (t := 36) (v := ?_) rfl (by kernel_rfl) (by kernel_rfl) (by kernel_rfl) (fun _ _ _ h => h) rfl (by rfl) ?_ hHeld ?_
    rotate_left 1
    · intro w hSw; (try dsimp only at hSw); go_simp; with_reducible rfl
    simp only [List.setIfInBounds_toArray, List.set_cons_zero, List.set_cons_succ]
    refine wpAnyH_ready (rs := [6]) (by kernel_rfl) (by simp) ?_
    refine AllReadyH.cons rfl (fun K hK => ?_) AllReadyH.nil
    simp only [List.getElem_toArray, List.getElem_cons_succ, List.getElem_cons_zero]
    go_simp
    (have HX0 := HS0.out; refine (HEQ.out _ _ _ _ _ _ _ _ (HQx.out _ HX0) (HQy.out _ HX0)).mono ?_; rintro e u1 ⟨rfl, hb1⟩; have HS1 := hide (below_then HX0 hb1); clear HX0)
    go_wp2_with fail
    refine hK.out _ _ (HKS.out _ HS1.out) (fun hHeld => ?_)
    clear hK K
    refine takeTF (i := 7) (t := 38) (v := ?_) rfl (by kernel_rfl) (by kernel_rfl) (by kernel_rfl) (fun _ _ _ h => h) rfl (by rfl) ?_ hHeld ?_
    rotate_left 1
    · intro w hSw; (try dsimp only at hSw); go_simp; with_reducible rfl
    simp only [List.setIfInBounds_toArray, List.set_cons_zero, List.set_cons_succ]
    refine takeTF (i := 8) (t := 39) (v := ?_) rfl (by kernel_rfl) (by kernel_rfl) (by kernel_rfl) (fun _ _ _ h => h) rfl (by rfl) ?_ hHeld ?_
    rotate_left 1
    · intro w hSw; (try dsimp only at hSw); go_simp; with_reducible rfl
    simp only [List.setIfInBounds_toArray, List.set_cons_zero, List.set_cons_succ]
    refine takeTF (i := 9) (t := 40) (v := ?_) rfl (by kernel_rfl) (by kernel_rfl) (by kernel_rfl) (fun _ _ _ h => h) rfl (by rfl) ?_ hHeld ?_
    rotate_left 1
    · intro w hSw; (try dsimp only at hSw); go_simp; with_reducible rfl
    simp only [List.setIfInBounds_toArray, List.set_cons_zero, List.set_cons_succ]
    refine takeTF (i := 10) (t := 41) (v := ?_) rfl (by kernel_rfl) (by kernel_rfl) (by kernel_rfl) (fun _ _ _ h => h) rfl (by rfl) ?_ hHeld ?_
    rotate_left 1
    · intro w hSw; (try dsimp only at hSw); go_simp; with_reducible rfl
    simp only [List.setIfInBounds_toArray, List.set_cons_zero, List.set_cons_succ]
    refine takeTF (i := 11) (t := 42) (v := ?_) rfl (by kernel_rfl) (by kernel_rfl) (by kernel_rfl) (fun _ _ _ h => h) rfl (by rfl) ?_ hHeld ?_
    rotate_left 1
    · intro w hSw; (try dsimp only at hSw); go_simp; with_reducible rfl
    simp only [List.setIfInBounds_toArray, List.set_cons_zero, List.set_cons_succ]
    refine skipTF (i := 12) (t := 43) rfl (by kernel_rfl) (by kernel_rfl) (by kernel_rfl) (fun _ _ _ h => h) rfl (by rfl) hHeld ?_
    simp only [List.setIfInBounds_toArray, List.set_cons_zero, List.set_cons_succ]
    refine skipTF (i := 13) (t := 44) rfl (by kernel_rfl) (by kernel_rfl) (by kernel_rfl) (fun _ _ _ h => h) rfl (by rfl) hHeld ?_
    simp only [List.setIfInBounds_toArray, List.set_cons_zero, List.set_cons_succ]
    refine skipTF (i := 15) (t := 46) rfl (by kernel_rfl) (by kernel_rfl) (by kernel_rfl) (fun _ _ _ h => h) rfl (by rfl) hHeld ?_
    simp only [List.setIfInBounds_toArray, List.set_cons_zero, List.set_cons_succ]
    refine skipTF (i := 16) (t := 47) rfl (by kernel_rfl) (by kernel_rfl) (by kernel_rfl) (fun _ _ _ h => h) rfl (by rfl) hHeld ?_
    simp only [List.setIfInBounds_toArray, List.set_cons_zero, List.set_cons_succ]
    refine skipCF (i := 14) (t := 45) (by kernel_rfl) rfl rfl (by rfl) hHeld ?_
    simp only [List.setIfInBounds_toArray, List.set_cons_zero, List.set_cons_succ]
    refine skipCF (i := 17) (t := 48) (by kernel_rfl) rfl rfl (by rfl) hHeld ?_
    simp only [List.setIfInBounds_toArray, List.set_cons_zero, List.set_cons_succ]
    refine skipCF (i := 18) (t := 49) (by kernel_rfl) rfl rfl (by rfl) hHeld ?_
    simp only [List.setIfInBounds_toArray, List.set_cons_zero, List.set_cons_succ]
    refine skipTF (i := 19) (t := 50) rfl (by kernel_rfl) (by kernel_rfl) (by kernel_rfl) (fun _ _ _ h => h) rfl (by rfl) hHeld ?_
    simp only [List.setIfInBounds_toArray, List.set_cons_zero, List.set_cons_succ]
    refine takeTF (i := 20) (t := 51) (v := ?_) rfl (by kernel_rfl) (by kernel_rfl) (by kernel_rfl) (fun _ _ _ h => h) rfl (by rfl) ?_ hHeld ?_
    rotate_left 1
    · intro w hSw; (try dsimp only at hSw); go_simp; with_reducible rfl
    simp only [List.setIfInBounds_toArray, List.set_cons_zero, List.set_cons_succ]
    refine takeTF (i := 21) (t := 52) (v := ?_) rfl (by kernel_rfl) (by kernel_rfl) (by kernel_rfl) (fun _ _ _ h => h) rfl (by rfl) ?_ hHeld ?_
    rotate_left 1
    · intro w hSw; (try dsimp only at hSw); go_simp; with_reducible rfl
    simp only [List.setIfInBounds_toArray, List.set_cons_zero, List.set_cons_succ]
    refine wpAnyH_done (by kernel_rfl) ?_ _
    have hb9 := HS1.out
    obtain ⟨w9, hw9⟩ : ∃ x, x = u1 := ⟨_, rfl⟩
    subst hw9
    clear HKS HS0 HS1 HBe HBf HBx HBy
    clear ye0 ye1 ye2 ye3 ye4 ye5 yf0 yf1 yf2 yf3 yf4 yf5 yx0 yx1 yx2 yy0 yy1 yy2
    have hs9 := hb9.size
    have hT9 := below_then hT8 hb9
    have ke := ke.below hb9 ke.lt
    have kf := kf.below hb9 kf.lt
    have kx := kx.below hb9 kx.lt
    have ky := ky.below hb9 ky.lt
    clear hT8
    clear hb9
    clear HQx HQy HX HHe HHf HC1 HC2 HFG
    clear kf
    clear kx
    clear ky
    go_upto_region 9 with fail
    obtain ⟨ye0, ye1, ye2, ye3, ye4, ye5⟩ := ke.cells6
    go_wp2_with fail
    refine (HI1.out w9).mono ?_
    rintro e w10 ⟨a0, a1, a2, rfl, oa, hb10⟩
    clear ye0 ye1 ye2 ye3 ye4 ye5
    obtain ⟨ab, aA, an, ac, aD, am, ak, rfl, rfl, rfl⟩ := oa.cut
    have hs10 := hb10.size
    have hT10 := below_then hT9 hb10
    have ke := ke.below hb10 ke.lt
    clear hT9
    clear hb10
    obtain ⟨w11, hw11⟩ : ∃ xw, xw = (w10.alloc (.cells #[.bool ab, .slice aA an ac, .slice aD am ak] 32)) := ⟨_, rfl⟩
    have hb11 : Below w10.heap.size w10 w11 := by rw [hw11]; exact below_new _ _
    have hq11 : w11.heap.size = w10.heap.size + 1 := by rw [hw11, alloc_size]
    have ka : Box w11 (w10.heap.size) 32 #[.bool ab, .slice aA an ac, .slice aD am ak] := by rw [hw11]; exact Box.last _ _ _ (by omega)
    have hs11 := hb11.size
    have hT11 := below_then hT10 hb11
    have ke := ke.below hb11 ke.lt
    have oa := oa.below hb11 (by omega)
    clear hT10
    go_upto_region 10 with fail
    rw [← hw11]
    clear hw11 hb11
    obtain ⟨ye0, ye1, ye2, ye3, ye4, ye5⟩ := ke.cells6
    go_wp2_with fail
    refine (HLv.out w11).mono ?_
    rintro e w12 ⟨z0, z1, z2, rfl, oz, hb12⟩
    clear ye0 ye1 ye2 ye3 ye4 ye5
    obtain ⟨zb, zA, zn, zc, zD, zm, zk, rfl, rfl, rfl⟩ := oz.cut
    have hs12 := hb12.size
    have hT12 := below_then hT11 hb12
    have ke := ke.below hb12 ke.lt
    have ka := ka.below hb12 ka.lt
    have oa := oa.below hb12 (by omega)
    clear hT11
    clear hb12
    obtain ⟨w13, hw13⟩ : ∃ xw, xw = (w12.alloc (.cells #[.bool zb, .slice zA zn zc, .slice zD zm zk] 32)) := ⟨_, rfl⟩
    have hb13 : Below w12.heap.size w12 w13 := by rw [hw13]; exact below_new _ _
    have hq13 : w13.heap.size = w12.heap.size + 1 := by rw [hw13, alloc_size]
    have kz : Box w13 (w12.heap.size) 32 #[.bool zb, .slice zA zn zc, .slice zD zm zk] := by rw [hw13]; exact Box.last _ _ _ (by omega)
    have hs13 := hb13.size
    have hT13 := below_then hT12 hb13
    have ke := ke.below hb13 ke.lt
    have ka := ka.below hb13 ka.lt
    have oa := oa.below hb13 (by omega)
    have oz := oz.below hb13 (by omega)
    clear hT12
    go_upto_region 11 with fail
    rw [← hw13]
    clear hw13 hb13
    have HQa := hide (fun (W : World) (h : Below w13.heap.size w13 W) => (((oa.in_ (intQ_fit _) (by omega)).below h).wider h.size : QIn W W.heap.size (.bool ab) (.slice aA an ac) (.slice aD am ak) (intQ ex)))
    have HQz := hide (fun (W : World) (h : Below w13.heap.size w13 W) => (((oz.in_ HFL.out (by omega)).below h).wider h.size : QIn W W.heap.size (.bool zb) (.slice zA zn zc) (.slice zD zm zk) RL))
    clear oa oz
    by_cases c0 : ey = ev
    · subst c0
      clear HLq
      have hd1 : (ey != ey) = false := by simp
      have hd2 : decide (ey ≠ ey) = false := by simp
      have HBe := hide ke
      have HBa := hide ka
      have HBz := hide kz
      have HS0 : Hid (Below w13.heap.size w13 w13.drew) := (Below.refl _ _).drew
      have HKS := hide (fun (W : World) (hq : Below w13.heap.size w13 W) => (⟨(HBe.out.below hq HBe.out.lt).cell 0, (HBe.out.below hq HBe.out.lt).cell 1, (HBe.out.below hq HBe.out.lt).cell 2, (HBe.out.below hq HBe.out.lt).cell 3, (HBe.out.below hq HBe.out.lt).cell 4, (HBe.out.below hq HBe.out.lt).cell 5, (HBa.out.below hq HBa.out.lt).cell 0, (HBa.out.below hq HBa.out.lt).cell 1, (HBa.out.below hq HBa.out.lt).cell 2, (HBz.out.below hq HBz.out.lt).cell 0, (HBz.out.below hq HBz.out.lt).cell 1, (HBz.out.below hq HBz.out.lt).cell 2⟩ : W.cell? ⟨w1.heap.size, 0, none⟩ = some (.int .i64 ex) ∧ W.cell? ⟨w1.heap.size, 1, none⟩ = some (.int .i64 ey) ∧ W.cell? ⟨w1.heap.size, 2, none⟩ = some (.int .i64 eu) ∧ W.cell? ⟨w1.heap.size, 3, none⟩ = some (.int .i64 ey) ∧ W.cell? ⟨w1.heap.size, 4, none⟩ = some (.int .i64 0) ∧ W.cell? ⟨w1.heap.size, 5, none⟩ = some (.bool el) ∧ W.cell? ⟨w10.heap.size, 0, none⟩ = some (.bool ab) ∧ W.cell? ⟨w10.heap.size, 1, none⟩ = some (.slice aA an ac) ∧ W.cell? ⟨w10.heap.size, 2, none⟩ = some (.slice aD am ak) ∧ W.cell? ⟨w12.heap.size, 0, none⟩ = some (.bool zb) ∧ W.cell? ⟨w12.heap.size, 1, none⟩ = some (.slice zA zn zc) ∧ W.cell? ⟨w12.heap.size, 2, none⟩ = some (.slice zD zm zk)))
      obtain ⟨ye0, ye1, ye2, ye3, ye4, ye5⟩ := ke.cells6
      obtain ⟨ya0, ya1, ya2⟩ := ka.cells3
      obtain ⟨yz0, yz1, yz2⟩ := kz.cells3
      refine wp_region_held_drew (S := (fun w' => w'.cell? ⟨w1.heap.size, 0, none⟩ = some (.int .i64 ex) ∧ w'.cell? ⟨w1.heap.size, 1, none⟩ = some (.int .i64 ey) ∧ w'.cell? ⟨w1.heap.size, 2, none⟩ = some (.int .i64 eu) ∧ w'.cell? ⟨w1.heap.size, 3, none⟩ = some (.int .i64 ey) ∧ w'.cell? ⟨w1.heap.size, 4, none⟩ = some (.int .i64 0) ∧ w'.cell? ⟨w1.heap.size, 5, none⟩ = some (.bool el) ∧ w'.cell? ⟨w10.heap.size, 0, none⟩ = some (.bool ab) ∧ w'.cell? ⟨w10.heap.size, 1, none⟩ = some (.slice aA an ac) ∧ w'.cell? ⟨w10.heap.size, 2, none⟩ = some (.slice aD am ak) ∧ w'.cell? ⟨w12.heap.size, 0, none⟩ = some (.bool zb) ∧ w'.cell? ⟨w12.heap.size, 1, none⟩ = some (.slice zA zn zc) ∧ w'.cell? ⟨w12.heap.size, 2, none⟩ = some (.slice zD zm zk))) (by kernel_rfl) (HKS.out _ HS0.out) (fun hHeld => ?_)
      show wpAnyH _ _ _ _ _ 42 _ _ _
      refine takeTF (i := 0) (t := 65) (v := ?_) rfl (by kernel_rfl) (by kernel_rfl) (by kernel_rfl) (fun _ _ _ h => h) rfl (by rfl) ?_ hHeld ?_
      rotate_left 1
      · intro w hSw; (try dsimp only at hSw); go_simp; with_reducible rfl
      simp only [List.setIfInBounds_toArray, List.set_cons_zero, List.set_cons_succ]
      refine wpAnyH_ready (rs := [1]) (by kernel_rfl) (by simp) ?_
      refine AllReadyH.cons rfl (fun K hK => ?_) AllReadyH.nil
      simp only [List.getElem_toArray, List.getElem_cons_succ, List.getElem_cons_zero]
      go_simp
      (have HX0 := HS0.out; refine (HV.out _).mono ?_; rintro e u1 ⟨rfl, hb1⟩; have HS1 := hide (below_then HX0 hb1); clear HX0)
      go_wp2_with fail
      refine hK.out _ _ (HKS.out _ HS1.out) (fun hHeld => ?_)
      clear hK K
      refine takeTF (i := 2) (t := 67) (v := ?_) rfl (by kernel_rfl) (by kernel_rfl) (by kernel_rfl) (fun _ _ _ h => h) rfl (by rfl) ?_ hHeld ?_
      rotate_left 1
      · intro w hSw; (try dsimp only at hSw); go_simp; with_reducible rfl
      simp only [List.setIfInBounds_toArray, List.set_cons_zero, List.set_cons_succ]
      refine takeTF (i := 3) (t := 68) (v := ?_) rfl (by kernel_rfl) (by kernel_rfl) (by kernel_rfl) (fun _ _ _ h => h) rfl (by rfl) ?_ hHeld ?_
      rotate_left 1
      · intro w hSw; (try dsimp only at hSw); go_simp; with_reducible rfl
      simp only [List.setIfInBounds_toArray, List.set_cons_zero, List.set_cons_succ]
      refine takeTF (i := 4) (t := 69) (v := ?_) rfl (by kernel_rfl) (by kernel_rfl) (by kernel_rfl) (fun _ _ _ h => h) rfl (by rfl) ?_ hHeld ?_
      rotate_left 1
      · intro w hSw; (try dsimp only at hSw); go_simp; with_reducible rfl
      simp only [List.setIfInBounds_toArray, List.set_cons_zero, List.set_cons_succ]
      refine takeTF (i := 6) (t := 71) (v := ?_) rfl (by kernel_rfl) (by kernel_rfl) (by kernel_rfl) (fun _ _ _ h => h) rfl (by rfl) ?_ hHeld ?_
      rotate_left 1
      · intro w hSw; (try dsimp only at hSw); go_simp; with_reducible rfl
      simp only [List.setIfInBounds_toArray, List.set_cons_zero, List.set_cons_succ]
      refine takeTF (i := 7) (t := 72) (v := ?_) rfl (by kernel_rfl) (by kernel_rfl) (by kernel_rfl) (fun _ _ _ h => h) rfl (by rfl) ?_ hHeld ?_
      rotate_left 1
      · intro w hSw; (try dsimp only at hSw); go_simp; with_reducible rfl
      simp only [List.setIfInBounds_toArray, List.set_cons_zero, List.set_cons_succ]
      refine takeTF (i := 8) (t := 73) (v := ?_) rfl (by kernel_rfl) (by kernel_rfl) (by kernel_rfl) (fun _ _ _ h => h) rfl (by rfl) ?_ hHeld ?_
      rotate_left 1
      · intro w hSw; (try dsimp only at hSw); go_simp; with_reducible rfl
      simp only [List.setIfInBounds_toArray, List.set_cons_zero, List.set_cons_succ]
      refine wpAnyH_ready (rs := [5]) (by kernel_rfl) (by simp) ?_
      refine AllReadyH.cons rfl (fun K hK => ?_) AllReadyH.nil
      simp only [List.getElem_toArray, List.getElem_cons_succ, List.getElem_cons_zero]
      go_simp
      (have HX0 := HS1.out; refine (HHa.out _ _ _ _ (HQa.out _ HX0)).mono ?_; rintro e u2 ⟨g0, g1, g2, rfl, og, hb2⟩; obtain ⟨gb, gA, gn, gc, gD, gm, gk, rfl, rfl, rfl⟩ := og.cut; have qg := og.in_ (intQ_fit _) (Nat.le_refl _); have HS2 := hide (below_then HX0 hb2); clear HX0 og)
      go_wp2_with fail
      refine hK.out _ _ (HKS.out _ HS2.out) (fun hHeld => ?_)
      clear hK K
      refine wpAnyH_ready (rs := [9]) (by kernel_rfl) (by simp) ?_
      refine AllReadyH.cons rfl (fun K hK => ?_) AllReadyH.nil
      simp only [List.getElem_toArray, List.getElem_cons_succ, List.getElem_cons_zero]
      go_simp
      (have HX0 := HS2.out; refine (HI2.out _).mono ?_; rintro e u3 ⟨j0, j1, j2, rfl, oj, hb3⟩; obtain ⟨jb, jA, jn, jc, jD, jm, jk, rfl, rfl, rfl⟩ := oj.cut; have qj := oj.in_ (intQ_fit _) (Nat.le_refl _); have HS3 := hide (below_then HX0 hb3); clear HX0 oj; have qg := qg.up hb3)
      go_wp2_with fail
      refine hK.out _ _ (HKS.out _ HS3.out) (fun hHeld => ?_)
      clear hK K
      refine wpAnyH_ready (rs := [10]) (by kernel_rfl) (by simp) ?_
      refine AllReadyH.cons rfl (fun K hK => ?_) AllReadyH.nil
      simp only [List.getElem_toArray, List.getElem_cons_succ, List.getElem_cons_zero]
      go_simp
      (have HX0 := HS3.out; refine (HEQ.out _ _ _ _ _ _ _ _ qg qj).mono ?_; rintro e u4 ⟨rfl, hb4⟩; have HS4 := hide (below_then HX0 hb4); clear HX0)
      go_wp2_with fail
      refine hK.out _ _ (HKS.out _ HS4.out) (fun hHeld => ?_)
      clear hK K
      refine takeTF (i := 11) (t := 76) (v := ?_) rfl (by kernel_rfl) (by kernel_rfl) (by kernel_rfl) (fun _ _ _ h => h) rfl (by rfl) ?_ hHeld ?_
      rotate_left 1
      · intro w hSw; (try dsimp only at hSw); go_simp; with_reducible rfl
      simp only [List.setIfInBounds_toArray, List.set_cons_zero, List.set_cons_succ]
      refine takeTF (i := 12) (t := 77) (v := ?_) rfl (by kernel_rfl) (by kernel_rfl) (by kernel_rfl) (fun _ _ _ h => h) rfl (by rfl) ?_ hHeld ?_
      rotate_left 1
      · intro w hSw; (try dsimp only at hSw); go_simp; with_reducible rfl
      simp only [List.setIfInBounds_toArray, List.set_cons_zero, List.set_cons_succ]
      refine takeTF (i := 13) (t := 78) (v := ?_) rfl (by kernel_rfl) (by kernel_rfl) (by kernel_rfl) (fun _ _ _ h => h) rfl (by rfl) ?_ hHeld ?_
      rotate_left 1
      · intro w hSw; (try dsimp only at hSw); go_simp; with_reducible rfl
      simp only [List.setIfInBounds_toArray, List.set_cons_zero, List.set_cons_succ]
      refine takeTF (i := 14) (t := 79) (v := ?_) rfl (by kernel_rfl) (by kernel_rfl) (by kernel_rfl) (fun _ _ _ h => h) rfl (by rfl) ?_ hHeld ?_
      rotate_left 1
      · intro w hSw; (try dsimp only at hSw); go_simp; with_reducible rfl
      simp only [List.setIfInBounds_toArray, List.set_cons_zero, List.set_cons_succ]
      refine takeTF (i := 15) (t := 80) (v := ?_) rfl (by kernel_rfl) (by kernel_rfl) (by kernel_rfl) (fun _ _ _ h => h) rfl (by rfl) ?_ hHeld ?_
      rotate_left 1
      · intro w hSw; (try dsimp only at hSw); go_simp; with_reducible rfl
      simp only [List.setIfInBounds_toArray, List.set_cons_zero, List.set_cons_succ]
      refine takeTF (i := 16) (t := 81) (v := ?_) rfl (by kernel_rfl) (by kernel_rfl) (by kernel_rfl) (fun _ _ _ h => h) rfl (by rfl) ?_ hHeld ?_
      rotate_left 1
      · intro w hSw; (try dsimp only at hSw); go_simp; with_reducible rfl
      simp only [List.setIfInBounds_toArray, List.set_cons_zero, List.set_cons_succ]
      refine takeTF (i := 17) (t := 82) (v := ?_) rfl (by kernel_rfl) (by kernel_rfl) (by kernel_rfl) (fun _ _ _ h => h) rfl (by rfl) ?_ hHeld ?_
      rotate_left 1
      · intro w hSw; (try dsimp only at hSw); go_simp; with_reducible rfl
      simp only [List.setIfInBounds_toArray, List.set_cons_zero, List.set_cons_succ]
      refine wpAnyH_ready (rs := [18]) (by kernel_rfl) (by simp) ?_
      refine AllReadyH.cons rfl (fun K hK => ?_) AllReadyH.nil
      simp only [List.getElem_toArray, List.getElem_cons_succ, List.getElem_cons_zero]
      go_simp
      (have HX0 := HS4.out; refine (HI3.out _).mono ?_; rintro e u5 ⟨m0, m1, m2, rfl, om, hb5⟩; obtain ⟨mb, mA, mn, mc, mD, mm, mk, rfl, rfl, rfl⟩ := om.cut; have qm := om.in_ (intQ_fit _) (Nat.le_refl _); have HS5 := hide (below_then HX0 hb5); clear HX0 om)
      go_wp2_with fail
      refine hK.out _ _ (HKS.out _ HS5.out) (fun hHeld => ?_)
      clear hK K
      refine wpAnyH_ready (rs := [19]) (by kernel_rfl) (by simp) ?_
      refine AllReadyH.cons rfl (fun K hK => ?_) AllReadyH.nil
      simp only [List.getElem_toArray, List.getElem_cons_succ, List.getElem_cons_zero]
      go_simp
      (have HX0 := HS5.out; refine (HSp.out _ _ _ _ _ _ _ (HQa.out _ HX0) qm).mono ?_; rintro e u6 ⟨rfl, hb6⟩; have HS6 := hide (below_then HX0 hb6); clear HX0)
      go_wp2_with fail
      refine hK.out _ _ (HKS.out _ HS6.out) (fun hHeld => ?_)
      clear hK K
      refine takeTF (i := 20) (t := 85) (v := ?_) rfl (by kernel_rfl) (by kernel_rfl) (by kernel_rfl) (fun _ _ _ h => h) rfl (by rfl) ?_ hHeld ?_
      rotate_left 1
      · intro w hSw; (try dsimp only at hSw); go_simp; with_reducible rfl
      simp only [List.setIfInBounds_toArray, List.set_cons_zero, List.set_cons_succ]
      refine takeTF (i := 21) (t := 86) (v := ?_) rfl (by kernel_rfl) (by kernel_rfl) (by kernel_rfl) (fun _ _ _ h => h) rfl (by rfl) ?_ hHeld ?_
      rotate_left 1
      · intro w hSw; (try dsimp only at hSw); go_simp; with_reducible rfl
      simp only [List.setIfInBounds_toArray, List.set_cons_zero, List.set_cons_succ]
      refine takeTF (i := 22) (t := 87) (v := ?_) rfl (by kernel_rfl) (by kernel_rfl) (by kernel_rfl) (fun _ _ _ h => h) rfl (by rfl) ?_ hHeld ?_
      rotate_left 1
      · intro w hSw; (try dsimp only at hSw); go_simp; with_reducible rfl
      simp only [List.setIfInBounds_toArray, List.set_cons_zero, List.set_cons_succ]
      refine takeTF (i := 23) (t := 88) (v := ?_) rfl (by kernel_rfl) (by kernel_rfl) (by kernel_rfl) (fun _ _ _ h => h) rfl (by rfl) ?_ hHeld ?_
      rotate_left 1
      · intro w hSw; (try dsimp only at hSw); go_simp; with_reducible rfl
      simp only [List.setIfInBounds_toArray, List.set_cons_zero, List.set_cons_succ]
      refine takeTF (i := 24) (t := 89) (v := ?_) rfl (by kernel_rfl) (by kernel_rfl) (by kernel_rfl) (fun _ _ _ h => h) rfl (by rfl) ?_ hHeld ?_
      rotate_left 1
      · intro w hSw; (try dsimp only at hSw); go_simp; with_reducible rfl
      simp only [List.setIfInBounds_toArray, List.set_cons_zero, List.set_cons_succ]
      refine takeTF (i := 25) (t := 90) (v := ?_) rfl (by kernel_rfl) (by kernel_rfl) (by kernel_rfl) (fun _ _ _ h => h) rfl (by rfl) ?_ hHeld ?_
      rotate_left 1
      · intro w hSw; (try dsimp only at hSw); go_simp; with_reducible rfl
      simp only [List.setIfInBounds_toArray, List.set_cons_zero, List.set_cons_succ]
      refine takeTF (i := 26) (t := 91) (v := ?_) rfl (by kernel_rfl) (by kernel_rfl) (by kernel_rfl) (fun _ _ _ h => h) rfl (by rfl) ?_ hHeld ?_
      rotate_left 1
      · intro w hSw; (try dsimp only at hSw); go_simp; with_reducible rfl
      simp only [List.setIfInBounds_toArray, List.set_cons_zero, List.set_cons_succ]
      refine takeTF (i := 27) (t := 92) (v := ?_) rfl (by kernel_rfl) (by kernel_rfl) (by kernel_rfl) (fun _ _ _ h => h) rfl (by rfl) ?_ hHeld ?_
      rotate_left 1
      · intro w hSw; (try dsimp only at hSw); go_simp; with_reducible rfl
      simp only [List.setIfInBounds_toArray, List.set_cons_zero, List.set_cons_succ]
      refine takeTF (i := 28) (t := 93) (v := ?_) rfl (by kernel_rfl) (by kernel_rfl) (by kernel_rfl) (fun _ _ _ h => h) rfl (by rfl) ?_ hHeld ?_
      rotate_left 1
      · intro w hSw; (try dsimp only at hSw); go_simp; with_reducible rfl
      simp only [List.setIfInBounds_toArray, List.set_cons_zero, List.set_cons_succ]
      refine takeTF (i := 29) (t := 94) (v := ?_) rfl (by kernel_rfl) (by kernel_rfl) (by kernel_rfl) (fun _ _ _ h => h) rfl (by rfl) ?_ hHeld ?_
      rotate_left 1
      · intro w hSw; (try dsimp only at hSw); go_simp; with_reducible rfl
      simp only [List.setIfInBounds_toArray, List.set_cons_zero, List.set_cons_succ]
      refine takeTF (i := 30) (t := 95) (v := ?_) rfl (by kernel_rfl) (by kernel_rfl) (by kernel_rfl) (fun _ _ _ h => h) rfl (by rfl) ?_ hHeld ?_
      rotate_left 1
      · intro w hSw; (try dsimp only at hSw); go_simp; with_reducible rfl
      simp only [List.setIfInBounds_toArray, List.set_cons_zero, List.set_cons_succ]
      refine takeTF (i := 31) (t := 96) (v := ?_) rfl (by kernel_rfl) (by kernel_rfl) (by kernel_rfl) (fun _ _ _ h => h) rfl (by rfl) ?_ hHeld ?_
      rotate_left 1
      · intro w hSw; (try dsimp only at hSw); go_simp; with_reducible rfl
      simp only [List.setIfInBounds_toArray, List.set_cons_zero, List.set_cons_succ]
      refine takeTF (i := 32) (t := 97) (v := ?_) rfl (by kernel_rfl) (by kernel_rfl) (by kernel_rfl) (fun _ _ _ h => h) rfl (by rfl) ?_ hHeld ?_
      rotate_left 1
      · intro w hSw; (try dsimp only at hSw); go_simp; with_reducible rfl
      simp only [List.setIfInBounds_toArray, List.set_cons_zero, List.set_cons_succ]
      refine takeTF (i := 33) (t := 98) (v := ?_) rfl (by kernel_rfl) (by kernel_rfl) (by kernel_rfl) (fun _ _ _ h => h) rfl (by rfl) ?_ hHeld ?_
      rotate_left 1
      · intro w hSw; (try dsimp only at hSw); go_simp; with_reducible rfl
      simp only [List.setIfInBounds_toArray, List.set_cons_zero, List.set_cons_succ]
      refine takeTF (i := 34) (t := 99) (v := ?_) rfl (by kernel_rfl) (by kernel_rfl) (by kernel_rfl) (fun _ _ _ h => h) rfl (by rfl) ?_ hHeld ?_
      rotate_left 1
      · intro w hSw; (try dsimp only at hSw); go_simp; with_reducible rfl
      simp only [List.setIfInBounds_toArray, List.set_cons_zero, List.set_cons_succ]
      refine takeTF (i := 35) (t := 100) (v := ?_) rfl (by kernel_rfl) (by kernel_rfl) (by kernel_rfl) (fun _ _ _ h => h) rfl (by rfl) ?_ hHeld ?_
      rotate_left 1
      · intro w hSw; (try dsimp only at hSw); go_simp; with_reducible rfl
      simp only [List.setIfInBounds_toArray, List.set_cons_zero, List.set_cons_succ]
      refine skipTF (i := 36) (t := 101) rfl (by kernel_rfl) (by kernel_rfl) (by kernel_rfl) (fun _ _ _ h => h) rfl (by rfl) hHeld ?_
      simp only [List.setIfInBounds_toArray, List.set_cons_zero, List.set_cons_succ]
      refine skipTF (i := 37) (t := 102) rfl (by kernel_rfl) (by kernel_rfl) (by kernel_rfl) (fun _ _ _ h => h) rfl (by rfl) hHeld ?_
      simp only [List.setIfInBounds_toArray, List.set_cons_zero, List.set_cons_succ]
      refine skipCF (i := 38) (t := 103) (by kernel_rfl) rfl rfl (by rfl) hHeld ?_
      simp only [List.setIfInBounds_toArray, List.set_cons_zero, List.set_cons_succ]
      refine takeTF (i := 39) (t := 104) (v := ?_) rfl (by kernel_rfl) (by kernel_rfl) (by kernel_rfl) (fun _ _ _ h => h) rfl (by rfl) ?_ hHeld ?_
      rotate_left 1
      · intro w hSw; (try dsimp only at hSw); go_simp; with_reducible rfl
      simp only [List.setIfInBounds_toArray, List.set_cons_zero, List.set_cons_succ]
      refine takeTF (i := 40) (t := 105) (v := ?_) rfl (by kernel_rfl) (by kernel_rfl) (by kernel_rfl) (fun _ _ _ h => h) rfl (by rfl) ?_ hHeld ?_
      rotate_left 1
      · intro w hSw; (try dsimp only at hSw); go_simp; with_reducible rfl
      simp only [List.setIfInBounds_toArray, List.set_cons_zero, List.set_cons_succ]
      refine takeTF (i := 41) (t := 2) (v := ?_) rfl (by kernel_rfl) (by kernel_rfl) (by kernel_rfl) (fun _ _ _ h => h) rfl (by rfl) ?_ hHeld ?_
      rotate_left 1
      · intro w hSw; (try dsimp only at hSw); go_simp; with_reducible rfl
      simp only [List.setIfInBounds_toArray, List.set_cons_zero, List.set_cons_succ]
      refine wpAnyH_done (by kernel_rfl) ?_ _
      have hb14 := HS6.out
      obtain ⟨w14, hw14⟩ : ∃ x, x = u6 := ⟨_, rfl⟩
      subst hw14
      clear HKS HS0 HS1 HS2 HS3 HS4 HS5 HS6 HBe HBa HBz
      clear ye0 ye1 ye2 ye3 ye4 ye5 ya0 ya1 ya2 yz0 yz1 yz2
      have hs14 := hb14.size
      have hT14 := below_then hT13 hb14
      have ke := ke.below hb14 ke.lt
      have ka := ka.below hb14 ka.lt
      have kz := kz.below hb14 kz.lt
      clear hT13
      clear hb14
      go_wp2_with fail
      go_ret
      exact ⟨by first | rfl | simp, hT14⟩
    · have hRL := HLq.out c0
      subst hRL
      have hd1 : (ey != ev) = true := bne_iff_ne.2 c0
      have hd2 : decide (ey ≠ ev) = true := decide_eq_true c0
      have hd3 : (ey == ev) = false := beq_eq_false_iff_ne.2 c0
      have HBe := hide ke
      have HBa := hide ka
      have HBz := hide kz
      have HS0 : Hid (Below w13.heap.size w13 w13.drew) := (Below.refl _ _).drew
      have HKS := hide (fun (W : World) (hq : Below w13.heap.size w13 W) => (⟨(HBe.out.below hq HBe.out.lt).cell 0, (HBe.out.below hq HBe.out.lt).cell 1, (HBe.out.below hq HBe.out.lt).cell 2, (HBe.out.below hq HBe.out.lt).cell 3, (HBe.out.below hq HBe.out.lt).cell 4, (HBe.out.below hq HBe.out.lt).cell 5, (HBa.out.below hq HBa.out.lt).cell 0, (HBa.out.below hq HBa.out.lt).cell 1, (HBa.out.below hq HBa.out.lt).cell 2, (HBz.out.below hq HBz.out.lt).cell 0, (HBz.out.below hq HBz.out.lt).cell 1, (HBz.out.below hq HBz.out.lt).cell 2⟩ : W.cell? ⟨w1.heap.size, 0, none⟩ = some (.int .i64 ex) ∧ W.cell? ⟨w1.heap.size, 1, none⟩ = some (.int .i64 ey) ∧ W.cell? ⟨w1.heap.size, 2, none⟩ = some (.int .i64 eu) ∧ W.cell? ⟨w1.heap.size, 3, none⟩ = some (.int .i64 ev) ∧ W.cell? ⟨w1.heap.size, 4, none⟩ = some (.int .i64 0) ∧ W.cell? ⟨w1.heap.size, 5, none⟩ = some (.bool el) ∧ W.cell? ⟨w10.heap.size, 0, none⟩ = some (.bool ab) ∧ W.cell? ⟨w10.heap.size, 1, none⟩ = some (.slice aA an ac) ∧ W.cell? ⟨w10.heap.size, 2, none⟩ = some (.slice aD am ak) ∧ W.cell? ⟨w12.heap.size, 0, none⟩ = some (.bool zb) ∧ W.cell? ⟨w12.heap.size, 1, none⟩ = some (.slice zA zn zc) ∧ W.cell? ⟨w12.heap.size, 2, none⟩ = some (.slice zD zm zk)))
      obtain ⟨ye0, ye1, ye2, ye3, ye4, ye5⟩ := ke.cells6
      obtain ⟨ya0, ya1, ya2⟩ := ka.cells3
      obtain ⟨yz0, yz1, yz2⟩ := kz.cells3
      refine wp_region_held_drew (S := (fun w' => w'.cell? ⟨w1.heap.size, 0, none⟩ = some (.int .i64 ex) ∧ w'.cell? ⟨w1.heap.size, 1, none⟩ = some (.int .i64 ey) ∧ w'.cell? ⟨w1.heap.size, 2, none⟩ = some (.int .i64 eu) ∧ w'.cell? ⟨w1.heap.size, 3, none⟩ = some (.int .i64 ev) ∧ w'.cell? ⟨w1.heap.size, 4, none⟩ = some (.int .i64 0) ∧ w'.cell? ⟨w1.heap.size, 5, none⟩ = some (.bool el) ∧ w'.cell? ⟨w10.heap.size, 0, none⟩ = some (.bool ab) ∧ w'.cell? ⟨w10.heap.size, 1, none⟩ = some (.slice aA an ac) ∧ w'.cell? ⟨w10.heap.size, 2, none⟩ = some (.slice aD am ak) ∧ w'.cell? ⟨w12.heap.size, 0, none⟩ = some (.bool zb) ∧ w'.cell? ⟨w12.heap.size, 1, none⟩ = some (.slice zA zn zc) ∧ w'.cell? ⟨w12.heap.size, 2, none⟩ = some (.slice zD zm zk))) (by kernel_rfl) (HKS.out _ HS0.out) (fun hHeld => ?_)
      show wpAnyH _ _ _ _ _ 42 _ _ _
      refine takeTF (i := 0) (t := 65) (v := ?_) rfl (by kernel_rfl) (by kernel_rfl) (by kernel_rfl) (fun _ _ _ h => h) rfl (by rfl) ?_ hHeld ?_
      rotate_left 1
      · intro w hSw; (try dsimp only at hSw); go_simp; with_reducible rfl
      simp only [List.setIfInBounds_toArray, List.set_cons_zero, List.set_cons_succ]
      refine wpAnyH_ready (rs := [1]) (by kernel_rfl) (by simp) ?_
      refine AllReadyH.cons rfl (fun K hK => ?_) AllReadyH.nil
      simp only [List.getElem_toArray, List.getElem_cons_succ, List.getElem_cons_zero]
      go_simp
      (have HX0 := HS0.out; refine (HV.out _).mono ?_; rintro e u1 ⟨rfl, hb1⟩; have HS1 := hide (below_then HX0 hb1); clear HX0)
      go_wp2_with fail
      refine hK.out _ _ (HKS.out _ HS1.out) (fun hHeld => ?_)
      clear hK K
      refine takeTF (i := 2) (t := 67) (v := ?_) rfl (by kernel_rfl) (by kernel_rfl) (by kernel_rfl) (fun _ _ _ h => h) rfl (by rfl) ?_ hHeld ?_
      rotate_left 1
      · intro w hSw; (try dsimp only at hSw); go_simp; with_reducible rfl
      simp only [List.setIfInBounds_toArray, List.set_cons_zero, List.set_cons_succ]
      refine takeTF (i := 3) (t := 68) (v := ?_) rfl (by kernel_rfl) (by kernel_rfl) (by kernel_rfl) (fun _ _ _ h => h) rfl (by rfl) ?_ hHeld ?_
      rotate_left 1
      · intro w hSw; (try dsimp only at hSw); go_simp; with_reducible rfl
      simp only [List.setIfInBounds_toArray, List.set_cons_zero, List.set_cons_succ]
      refine takeTF (i := 4) (t := 69) (v := ?_) rfl (by kernel_rfl) (by kernel_rfl) (by kernel_rfl) (fun _ _ _ h => h) rfl (by rfl) ?_ hHeld ?_
      rotate_left 1
      · intro w hSw; (try dsimp only at hSw); go_simp; with_reducible rfl
      simp only [List.setIfInBounds_toArray, List.set_cons_zero, List.set_cons_succ]
      refine takeTF (i := 6) (t := 71) (v := ?_) rfl (by kernel_rfl) (by kernel_rfl) (by kernel_rfl) (fun _ _ _ h => h) rfl (by rfl) ?_ hHeld ?_
      rotate_left 1
      · intro w hSw; (try dsimp only at hSw); go_simp; with_reducible rfl
      simp only [List.setIfInBounds_toArray, List.set_cons_zero, List.set_cons_succ]
      refine takeTF (i := 7) (t := 72) (v := ?_) rfl (by kernel_rfl) (by kernel_rfl) (by kernel_rfl) (fun _ _ _ h => h) rfl (by rfl) ?_ hHeld ?_
      rotate_left 1
      · intro w hSw; (try dsimp only at hSw); go_simp; with_reducible rfl
      simp only [List.setIfInBounds_toArray, List.set_cons_zero, List.set_cons_succ]
      refine takeTF (i := 8) (t := 73) (v := ?_) rfl (by kernel_rfl) (by kernel_rfl) (by kernel_rfl) (fun _ _ _ h => h) rfl (by rfl) ?_ hHeld ?_
      rotate_left 1
      · intro w hSw; (try dsimp only at hSw); go_simp; with_reducible rfl
      simp only [List.setIfInBounds_toArray, List.set_cons_zero, List.set_cons_succ]
      refine wpAnyH_ready (rs := [5]) (by kernel_rfl) (by simp) ?_
      refine AllReadyH.cons rfl (fun K hK => ?_) AllReadyH.nil
      simp only [List.getElem_toArray, List.getElem_cons_succ, List.getElem_cons_zero]
      go_simp
      (have HX0 := HS1.out; refine (HHa.out _ _ _ _ (HQa.out _ HX0)).mono ?_; rintro e u2 ⟨g0, g1, g2, rfl, og, hb2⟩; obtain ⟨gb, gA, gn, gc, gD, gm, gk, rfl, rfl, rfl⟩ := og.cut; have qg := og.in_ (intQ_fit _) (Nat.le_refl _); have HS2 := hide (below_then HX0 hb2); clear HX0 og)
      go_wp2_with fail
      refine hK.out _ _ (HKS.out _ HS2.out) (fun hHeld => ?_)
      clear hK K
      refine wpAnyH_ready (rs := [9]) (by kernel_rfl) (by simp) ?_
      refine AllReadyH.cons rfl (fun K hK => ?_) AllReadyH.nil
      simp only [List.getElem_toArray, List.getElem_cons_succ, List.getElem_cons_zero]
      go_simp
      (have HX0 := HS2.out; refine (HI2.out _).mono ?_; rintro e u3 ⟨j0, j1, j2, rfl, oj, hb3⟩; obtain ⟨jb, jA, jn, jc, jD, jm, jk, rfl, rfl, rfl⟩ := oj.cut; have qj := oj.in_ (intQ_fit _) (Nat.le_refl _); have HS3 := hide (below_then HX0 hb3); clear HX0 oj; have qg := qg.up hb3)
      go_wp2_with fail
      refine hK.out _ _ (HKS.out _ HS3.out) (fun hHeld => ?_)
      clear hK K
      refine wpAnyH_ready (rs := [10]) (by kernel_rfl) (by simp) ?_
      refine AllReadyH.cons rfl (fun K hK => ?_) AllReadyH.nil
      simp only [List.getElem_toArray, List.getElem_cons_succ, List.getElem_cons_zero]
      go_simp
      (have HX0 := HS3.out; refine (HEQ.out _ _ _ _ _ _ _ _ qg qj).mono ?_; rintro e u4 ⟨rfl, hb4⟩; have HS4 := hide (below_then HX0 hb4); clear HX0)
      go_wp2_with fail
      refine hK.out _ _ (HKS.out _ HS4.out) (fun hHeld => ?_)
      clear hK K
      refine takeTF (i := 11) (t := 76) (v := ?_) rfl (by kernel_rfl) (by kernel_rfl) (by kernel_rfl) (fun _ _ _ h => h) rfl (by rfl) ?_ hHeld ?_
      rotate_left 1
      · intro w hSw; (try dsimp only at hSw); go_simp; with_reducible rfl
      simp only [List.setIfInBounds_toArray, List.set_cons_zero, List.set_cons_succ]
      refine takeTF (i := 12) (t := 77) (v := ?_) rfl (by kernel_rfl) (by kernel_rfl) (by kernel_rfl) (fun _ _ _ h => h) rfl (by rfl) ?_ hHeld ?_
      rotate_left 1
      · intro w hSw; (try dsimp only at hSw); go_simp; with_reducible rfl
      simp only [List.setIfInBounds_toArray, List.set_cons_zero, List.set_cons_succ]
      refine takeTF (i := 13) (t := 78) (v := ?_) rfl (by kernel_rfl) (by kernel_rfl) (by kernel_rfl) (fun _ _ _ h => h) rfl (by rfl) ?_ hHeld ?_
      rotate_left 1
      · intro w hSw; (try dsimp only at hSw); go_simp; with_reducible rfl
      simp only [List.setIfInBounds_toArray, List.set_cons_zero, List.set_cons_succ]
      refine takeTF (i := 14) (t := 79) (v := ?_) rfl (by kernel_rfl) (by kernel_rfl) (by kernel_rfl) (fun _ _ _ h => h) rfl (by rfl) ?_ hHeld ?_
      rotate_left 1
      · intro w hSw; (try dsimp only at hSw); go_simp; with_reducible rfl
      simp only [List.setIfInBounds_toArray, List.set_cons_zero, List.set_cons_succ]
      refine takeTF (i := 15) (t := 80) (v := ?_) rfl (by kernel_rfl) (by kernel_rfl) (by kernel_rfl) (fun _ _ _ h => h) rfl (by rfl) ?_ hHeld ?_
      rotate_left 1
      · intro w hSw; (try dsimp only at hSw); go_simp; with_reducible rfl
      simp only [List.setIfInBounds_toArray, List.set_cons_zero, List.set_cons_succ]
      refine takeTF (i := 16) (t := 81) (v := ?_) rfl (by kernel_rfl) (by kernel_rfl) (by kernel_rfl) (fun _ _ _ h => h) rfl (by rfl) ?_ hHeld ?_
      rotate_left 1
      · intro w hSw; (try dsimp only at hSw); go_simp; with_reducible rfl
      simp only [List.setIfInBounds_toArray, List.set_cons_zero, List.set_cons_succ]
      refine takeTF (i := 17) (t := 82) (v := ?_) rfl (by kernel_rfl) (by kernel_rfl) (by kernel_rfl) (fun _ _ _ h => h) rfl (by rfl) ?_ hHeld ?_
      rotate_left 1
      · intro w hSw; (try dsimp only at hSw); go_simp; with_reducible rfl
      simp only [List.setIfInBounds_toArray, List.set_cons_zero, List.set_cons_succ]
      refine wpAnyH_ready (rs := [18]) (by kernel_rfl) (by simp) ?_
      refine AllReadyH.cons rfl (fun K hK => ?_) AllReadyH.nil
      simp only [List.getElem_toArray, List.getElem_cons_succ, List.getElem_cons_zero]
      go_simp
      (have HX0 := HS4.out; refine (HI3.out _).mono ?_; rintro e u5 ⟨m0, m1, m2, rfl, om, hb5⟩; obtain ⟨mb, mA, mn, mc, mD, mm, mk, rfl, rfl, rfl⟩ := om.cut; have qm := om.in_ (intQ_fit _) (Nat.le_refl _); have HS5 := hide (below_then HX0 hb5); clear HX0 om)
      go_wp2_with fail
      refine hK.out _ _ (HKS.out _ HS5.out) (fun hHeld => ?_)
      clear hK K
      refine wpAnyH_ready (rs := [19]) (by kernel_rfl) (by simp) ?_
      refine AllReadyH.cons rfl (fun K hK => ?_) AllReadyH.nil
      simp only [List.getElem_toArray, List.getElem_cons_succ, List.getElem_cons_zero]
      go_simp
      (have HX0 := HS5.out; refine (HSp.out _ _ _ _ _ _ _ (HQa.out _ HX0) qm).mono ?_; rintro e u6 ⟨rfl, hb6⟩; have HS6 := hide (below_then HX0 hb6); clear HX0)
      go_wp2_with fail
      refine hK.out _ _ (HKS.out _ HS6.out) (fun hHeld => ?_)
      clear hK K
      refine takeTF (i := 20) (t := 85) (v := ?_) rfl (by kernel_rfl) (by kernel_rfl) (by kernel_rfl) (fun _ _ _ h => h) rfl (by rfl) ?_ hHeld ?_
      rotate_left 1
      · intro w hSw; (try dsimp only at hSw); go_simp; with_reducible rfl
      simp only [List.setIfInBounds_toArray, List.set_cons_zero, List.set_cons_succ]
      refine takeTF (i := 21) (t := 86) (v := ?_) rfl (by kernel_rfl) (by kernel_rfl) (by kernel_rfl) (fun _ _ _ h => h) rfl (by rfl) ?_ hHeld ?_
      rotate_left 1
      · intro w hSw; (try dsimp only at hSw); go_simp; with_reducible rfl
      simp only [List.setIfInBounds_toArray, List.set_cons_zero, List.set_cons_succ]
      refine takeTF (i := 22) (t := 87) (v := ?_) rfl (by kernel_rfl) (by kernel_rfl) (by kernel_rfl) (fun _ _ _ h => h) rfl (by rfl) ?_ hHeld ?_
      rotate_left 1
      · intro w hSw; (try dsimp only at hSw); go_simp; with_reducible rfl
      simp only [List.setIfInBounds_toArray, List.set_cons_zero, List.set_cons_succ]
      refine takeTF (i := 23) (t := 88) (v := ?_) rfl (by kernel_rfl) (by kernel_rfl) (by kernel_rfl) (fun _ _ _ h => h) rfl (by rfl) ?_ hHeld ?_
      rotate_left 1
      · intro w hSw; (try dsimp only at hSw); go_simp; with_reducible rfl
      simp only [List.setIfInBounds_toArray, List.set_cons_zero, List.set_cons_succ]
      refine takeTF (i := 24) (t := 89) (v := ?_) rfl (by kernel_rfl) (by kernel_rfl) (by kernel_rfl) (fun _ _ _ h => h) rfl (by rfl) ?_ hHeld ?_
      rotate_left 1
      · intro w hSw; (try dsimp only at hSw); go_simp; with_reducible rfl
      simp only [List.setIfInBounds_toArray, List.set_cons_zero, List.set_cons_succ]
      refine takeTF (i := 25) (t := 90) (v := ?_) rfl (by kernel_rfl) (by kernel_rfl) (by kernel_rfl) (fun _ _ _ h => h) rfl (by rfl) ?_ hHeld ?_
      rotate_left 1
      · intro w hSw; (try dsimp only at hSw); go_simp; with_reducible rfl
      simp only [List.setIfInBounds_toArray, List.set_cons_zero, List.set_cons_succ]
      refine takeTF (i := 26) (t := 91) (v := ?_) rfl (by kernel_rfl) (by kernel_rfl) (by kernel_rfl) (fun _ _ _ h => h) rfl (by rfl) ?_ hHeld ?_
      rotate_left 1
      · intro w hSw; (try dsimp only at hSw); go_simp; with_reducible rfl
      simp only [List.setIfInBounds_toArray, List.set_cons_zero, List.set_cons_succ]
      refine takeTF (i := 27) (t := 92) (v := ?_) rfl (by kernel_rfl) (by kernel_rfl) (by kernel_rfl) (fun _ _ _ h => h) rfl (by rfl) ?_ hHeld ?_
      rotate_left 1
      · intro w hSw; (try dsimp only at hSw); go_simp; with_reducible rfl
      simp only [List.setIfInBounds_toArray, List.set_cons_zero, List.set_cons_succ]
      refine takeTF (i := 28) (t := 93) (v := ?_) rfl (by kernel_rfl) (by kernel_rfl) (by kernel_rfl) (fun _ _ _ h => h) rfl (by rfl) ?_ hHeld ?_
      rotate_left 1
      · intro w hSw; (try dsimp only at hSw); go_simp; with_reducible rfl
      simp only [List.setIfInBounds_toArray, List.set_cons_zero, List.set_cons_succ]
      refine takeTF (i := 29) (t := 94) (v := ?_) rfl (by kernel_rfl) (by kernel_rfl) (by kernel_rfl) (fun _ _ _ h => h) rfl (by rfl) ?_ hHeld ?_
      rotate_left 1
      · intro w hSw; (try dsimp only at hSw); go_simp; with_reducible rfl
      simp only [List.setIfInBounds_toArray, List.set_cons_zero, List.set_cons_succ]
      refine takeTF (i := 30) (t := 95) (v := ?_) rfl (by kernel_rfl) (by kernel_rfl) (by kernel_rfl) (fun _ _ _ h => h) rfl (by rfl) ?_ hHeld ?_
      rotate_left 1
      · intro w hSw; (try dsimp only at hSw); go_simp; with_reducible rfl
      simp only [List.setIfInBounds_toArray, List.set_cons_zero, List.set_cons_succ]
      refine takeTF (i := 31) (t := 96) (v := ?_) rfl (by kernel_rfl) (by kernel_rfl) (by kernel_rfl) (fun _ _ _ h => h) rfl (by rfl) ?_ hHeld ?_
      rotate_left 1
      · intro w hSw; (try dsimp only at hSw); go_simp; with_reducible rfl
      simp only [List.setIfInBounds_toArray, List.set_cons_zero, List.set_cons_succ]
      refine takeTF (i := 32) (t := 97) (v := ?_) rfl (by kernel_rfl) (by kernel_rfl) (by kernel_rfl) (fun _ _ _ h => h) rfl (by rfl) ?_ hHeld ?_
      rotate_left 1
      · intro w hSw; (try dsimp only at hSw); go_simp; with_reducible rfl
      simp only [List.setIfInBounds_toArray, List.set_cons_zero, List.set_cons_succ]
      refine takeTF (i := 33) (t := 98) (v := ?_) rfl (by kernel_rfl) (by kernel_rfl) (by kernel_rfl) (fun _ _ _ h => h) rfl (by rfl) ?_ hHeld ?_
      rotate_left 1
      · intro w hSw; (try dsimp only at hSw); go_simp; with_reducible rfl
      simp only [List.setIfInBounds_toArray, List.set_cons_zero, List.set_cons_succ]
      refine takeTF (i := 34) (t := 99) (v := ?_) rfl (by kernel_rfl) (by kernel_rfl) (by kernel_rfl) (fun _ _ _ h => h) rfl (by rfl) ?_ hHeld ?_
      rotate_left 1
      · intro w hSw; (try dsimp only at hSw); go_simp; with_reducible rfl
      simp only [List.setIfInBounds_toArray, List.set_cons_zero, List.set_cons_succ]
      refine takeTF (i := 35) (t := 100) (v := ?_) rfl (by kernel_rfl) (by kernel_rfl) (by kernel_rfl) (fun _ _ _ h => h) rfl (by rfl) ?_ hHeld ?_
      rotate_left 1
      · intro w hSw; (try dsimp only at hSw); go_simp; with_reducible rfl
      simp only [List.setIfInBounds_toArray, List.set_cons_zero, List.set_cons_succ]
      refine takeTF (i := 36) (t := 101) (v := ?_) rfl (by kernel_rfl) (by kernel_rfl) (by kernel_rfl) (fun _ _ _ h => h) rfl (by rfl) ?_ hHeld ?_
      rotate_left 1
      · intro w hSw; (try dsimp only at hSw); go_simp; with_reducible rfl
      simp only [List.setIfInBounds_toArray, List.set_cons_zero, List.set_cons_succ]
      refine takeTF (i := 37) (t := 102) (v := ?_) rfl (by kernel_rfl) (by kernel_rfl) (by kernel_rfl) (fun _ _ _ h => h) rfl (by rfl) ?_ hHeld ?_
      rotate_left 1
      · intro w hSw; (try dsimp only at hSw); go_simp; with_reducible rfl
      simp only [List.setIfInBounds_toArray, List.set_cons_zero, List.set_cons_succ]
      refine wpAnyH_ready (rs := [38]) (by kernel_rfl) (by simp) ?_
      refine AllReadyH.cons rfl (fun K hK => ?_) AllReadyH.nil
      simp only [List.getElem_toArray, List.getElem_cons_succ, List.getElem_cons_zero]
      go_simp
      (have HX0 := HS6.out; refine (HEQ.out _ _ _ _ _ _ _ _ (HQz.out _ HX0) (HQa.out _ HX0)).mono ?_; rintro e u7 ⟨rfl, hb7⟩; have HS7 := hide (below_then HX0 hb7); clear HX0)
      go_wp2_with fail
      refine hK.out _ _ (HKS.out _ HS7.out) (fun hHeld => ?_)
      clear hK K
      refine takeTF (i := 39) (t := 104) (v := ?_) rfl (by kernel_rfl) (by kernel_rfl) (by kernel_rfl) (fun _ _ _ h => h) rfl (by rfl) ?_ hHeld ?_
      rotate_left 1
      · intro w hSw; (try dsimp only at hSw); go_simp; with_reducible rfl
      simp only [List.setIfInBounds_toArray, List.set_cons_zero, List.set_cons_succ]
      refine takeTF (i := 40) (t := 105) (v := ?_) rfl (by kernel_rfl) (by kernel_rfl) (by kernel_rfl) (fun _ _ _ h => h) rfl (by rfl) ?_ hHeld ?_
      rotate_left 1
      · intro w hSw; (try dsimp only at hSw); go_simp; with_reducible rfl
      simp only [List.setIfInBounds_toArray, List.set_cons_zero, List.set_cons_succ]
      refine takeTF (i := 41) (t := 2) (v := ?_) rfl (by kernel_rfl) (by kernel_rfl) (by kernel_rfl) (fun _ _ _ h => h) rfl (by rfl) ?_ hHeld ?_
      rotate_left 1
      · intro w hSw; (try dsimp only at hSw); go_simp; with_reducible rfl
      simp only [List.setIfInBounds_toArray, List.set_cons_zero, List.set_cons_succ]
      refine wpAnyH_done (by kernel_rfl) ?_ _
      have hb14 := HS7.out
      obtain ⟨w14, hw14⟩ : ∃ x, x = u7 := ⟨_, rfl⟩
      subst hw14
      clear HKS HS0 HS1 HS2 HS3 HS4 HS5 HS6 HS7 HBe HBa HBz
      clear ye0 ye1 ye2 ye3 ye4 ye5 ya0 ya1 ya2 yz0 yz1 yz2
      have hs14 := hb14.size
      have hT14 := below_then hT13 hb14
      have ke := ke.below hb14 ke.lt
      have ka := ka.below hb14 ka.lt
      have kz := kz.below hb14 kz.lt
      clear hT13
      clear hb14
      go_wp2_with fail
      go_ret
      exact ⟨by first | rfl | simp, hT14⟩
  | true =>
    obtain ⟨hxv, hgf⟩ := HX.out (by trivial)
    subst hgf
    have HBe := hide ke
    have HBf := hide kf
    have HBx := hide kx
    have HBy := hide ky
    have HS0 : Hid (Below w8.heap.size w8 w8.drew) := (Below.refl _ _).drew
    have HKS := hide (fun (W : World) (hq : Below w8.heap.size w8 W) => (⟨(HBe.out.below hq HBe.out.lt).cell 0, (HBe.out.below hq HBe.out.lt).cell 1, (HBe.out.below hq HBe.out.lt).cell 2, (HBe.out.below hq HBe.out.lt).cell 3, (HBe.out.below hq HBe.out.lt).cell 4, (HBe.out.below hq HBe.out.lt).cell 5, (HBf.out.below hq HBf.out.lt).cell 0, (HBf.out.below hq HBf.out.lt).cell 1, (HBf.out.below hq HBf.out.lt).cell 2, (HBf.out.below hq HBf.out.lt).cell 3, (HBf.out.below hq HBf.out.lt).cell 4, (HBf.out.below hq HBf.out.lt).cell 5, (HBx.out.below hq HBx.out.lt).cell 0, (HBx.out.below hq HBx.out.lt).cell 1, (HBx.out.below hq HBx.out.lt).cell 2, (HBy.out.below hq HBy.out.lt).cell 0, (HBy.out.below hq HBy.out.lt).cell 1, (HBy.out.below hq HBy.out.lt).cell 2⟩ : W.cell? ⟨w1.heap.size, 0, none⟩ = some (.int .i64 ex) ∧ W.cell? ⟨w1.heap.size, 1, none⟩ = some (.int .i64 ey) ∧ W.cell? ⟨w1.heap.size, 2, none⟩ = some (.int .i64 eu) ∧ W.cell? ⟨w1.heap.size, 3, none⟩ = some (.int .i64 ev) ∧ W.cell? ⟨w1.heap.size, 4, none⟩ = some (.int .i64 0) ∧ W.cell? ⟨w1.heap.size, 5, none⟩ = some (.bool el) ∧ W.cell? ⟨w3.heap.size, 0, none⟩ = some (.int .i64 fx) ∧ W.cell? ⟨w3.heap.size, 1, none⟩ = some (.int .i64 fy) ∧ W.cell? ⟨w3.heap.size, 2, none⟩ = some (.int .i64 fu) ∧ W.cell? ⟨w3.heap.size, 3, none⟩ = some (.int .i64 fv) ∧ W.cell? ⟨w3.heap.size, 4, none⟩ = some (.int .i64 0) ∧ W.cell? ⟨w3.heap.size, 5, none⟩ = some (.bool fl) ∧ W.cell? ⟨w5.heap.size, 0, none⟩ = some (.bool xb) ∧ W.cell? ⟨w5.heap.size, 1, none⟩ = some (.slice xA xn xc) ∧ W.cell? ⟨w5.heap.size, 2, none⟩ = some (.slice xD xm xk) ∧ W.cell? ⟨w7.heap.size, 0, none⟩ = some (.bool yb) ∧ W.cell? ⟨w7.heap.size, 1, none⟩ = some (.slice yA yn yc) ∧ W.cell? ⟨w7.heap.size, 2, none⟩ = some (.slice yD ym yk)))
    obtain ⟨ye0, ye1, ye2, ye3, ye4, ye5⟩ := ke.cells6
    obtain ⟨yf0, yf1, yf2, yf3, yf4, yf5⟩ := kf.cells6
    obtain ⟨yx0, yx1, yx2⟩ := kx.cells3
    obtain ⟨yy0, yy1, yy2⟩ := ky.cells3
    refine wp_region_held_drew (S := (fun w' => w'.cell? ⟨w1.heap.size, 0, none⟩ = some (.int .i64 ex) ∧ w'.cell? ⟨w1.heap.size, 1, none⟩ = some (.int .i64 ey) ∧ w'.cell? ⟨w1.heap.size, 2, none⟩ = some (.int .i64 eu) ∧ w'.cell? ⟨w1.heap.size, 3, none⟩ = some (.int .i64 ev) ∧ w'.cell? ⟨w1.heap.size, 4, none⟩ = some (.int .i64 0) ∧ w'.cell? ⟨w1.heap.size, 5, none⟩ = some (.bool el) ∧ w'.cell? ⟨w3.heap.size, 0, none⟩ = some (.int .i64 fx) ∧ w'.cell? ⟨w3.heap.size, 1, none⟩ = some (.int .i64 fy) ∧ w'.cell? ⟨w3.heap.size, 2, none⟩ = some (.int .i64 fu) ∧ w'.cell? ⟨w3.heap.size, 3, none⟩ = some (.int .i64 fv) ∧ w'.cell? ⟨w3.heap.size, 4, none⟩ = some (.int .i64 0) ∧ w'.cell? ⟨w3.heap.size, 5, none⟩ = some (.bool fl) ∧ w'.cell? ⟨w5.heap.size, 0, none⟩ = some (.bool xb) ∧ w'.cell? ⟨w5.heap.size, 1, none⟩ = some (.slice xA xn xc) ∧ w'.cell? ⟨w5.heap.size, 2, none⟩ = some (.slice xD xm xk) ∧ w'.cell? ⟨w7.heap.size, 0, none⟩ = some (.bool yb) ∧ w'.cell? ⟨w7.heap.size, 1, none⟩ = some (.slice yA yn yc) ∧ w'.cell? ⟨w7.heap.size, 2, none⟩ = some (.slice yD ym yk))) (by kernel_rfl) (HKS.out _ HS0.out) (fun hHeld => ?_)
    show wpAnyH _ _ _ _ _ 22 _ _ _
    refine takeTF (i := 0) (t := 31) (v := ?_) rfl (by kernel_rfl) (by kernel_rfl) (by kernel_rfl) (fun _ _ _ h => h) rfl (by rfl) ?_ hHeld ?_
    rotate_left 1
    · intro w hSw; (try dsimp only at hSw); go_simp; with_reducible rfl
    simp only [List.setIfInBounds_toArray, List.set_cons_zero, List.set_cons_succ]
    refine takeTF (i := 1) (t := 32) (v := ?_) rfl (by kernel_rfl) (by kernel_rfl) (by kernel_rfl) (fun _ _ _ h => h) rfl (by rfl) ?_ hHeld ?_
    rotate_left 1
    · intro w hSw; (try dsimp only at hSw); go_simp; with_reducible rfl
    simp only [List.setIfInBounds_toArray, List.set_cons_zero, List.set_cons_succ]
    refine takeTF (i := 2) (t := 33) (v := ?_) rfl (by kernel_rfl) (by kernel_rfl) (by kernel_rfl) (fun _ _ _ h => h) rfl (by rfl) ?_ hHeld ?_
    rotate_left 1
    · intro w hSw; (try dsimp only at hSw); go_simp; with_reducible rfl
    simp only [List.setIfInBounds_toArray, List.set_cons_zero, List.set_cons_succ]
    refine takeTF (i := 3) (t := 34) (v := ?_) rfl (by kernel_rfl) (by kernel_rfl) (by kernel_rfl) (fun _ _ _ h => h) rfl (by rfl) ?_ hHeld ?_
    rotate_left 1
    · intro w hSw; (try dsimp only at hSw); go_simp; with_reducible rfl
    simp only [List.setIfInBounds_toArray, List.set_cons_zero, List.set_cons_succ]
    refine takeTF (i := 4) (t := 35) (v := ?_) rfl (by kernel_rfl) (by kernel_rfl) (by kernel_rfl) (fun _ _ _ h => h) rfl (by rfl) ?_ hHeld ?_
    rotate_left 1
    · intro w hSw; (try dsimp only at hSw); go_simp; with_reducible rfl
    simp only [List.setIfInBounds_toArray, List.set_cons_zero, List.set_cons_succ]
    refine takeTF (i := 5) (t := 36) (v := ?_) rfl (by kernel_rfl) (by kernel_rfl) (by kernel_rfl) (fun _ _ _ h => h) rfl (by rfl) ?_ hHeld ?_
    rotate_left 1
    · intro w hSw; (try dsimp only at hSw); go_simp; with_reducible rfl
    simp only [List.setIfInBounds_toArray, List.set_cons_zero, List.set_cons_succ]
    refine wpAnyH_ready (rs := [6]) (by kernel_rfl) (by simp) ?_
    refine AllReadyH.cons rfl (fun K hK => ?_) AllReadyH.nil
    simp only [List.getElem_toArray, List.getElem_cons_succ, List.getElem_cons_zero]
    go_simp
    (have HX0 := HS0.out; refine (HEQ.out _ _ _ _ _ _ _ _ (HQx.out _ HX0) (HQy.out _ HX0)).mono ?_; rintro e u1 ⟨rfl, hb1⟩; have HS1 := hide (below_then HX0 hb1); clear HX0)
    go_wp2_with fail
    refine hK.out _ _ (HKS.out _ HS1.out) (fun hHeld => ?_)
    clear hK K
    refine takeTF (i := 7) (t := 38) (v := ?_) rfl (by kernel_rfl) (by kernel_rfl) (by kernel_rfl) (fun _ _ _ h => h) rfl (by rfl) ?_ hHeld ?_
    rotate_left 1
    · intro w hSw; (try dsimp only at hSw); go_simp; with_reducible rfl
    simp only [List.setIfInBounds_toArray, List.set_cons_zero, List.set_cons_succ]
    refine takeTF (i := 8) (t := 39) (v := ?_) rfl (by kernel_rfl) (by kernel_rfl) (by kernel_rfl) (fun _ _ _ h => h) rfl (by rfl) ?_ hHeld ?_
    rotate_left 1
    · intro w hSw; (try dsimp only at hSw); go_simp; with_reducible rfl
    simp only [List.setIfInBounds_toArray, List.set_cons_zero, List.set_cons_succ]
    refine takeTF (i := 9) (t := 40) (v := ?_) rfl (by kernel_rfl) (by kernel_rfl) (by kernel_rfl) (fun _ _ _ h => h) rfl (by rfl) ?_ hHeld ?_
    rotate_left 1
    · intro w hSw; (try dsimp only at hSw); go_simp; with_reducible rfl
    simp only [List.setIfInBounds_toArray, List.set_cons_zero, List.set_cons_succ]
    refine takeTF (i := 10) (t := 41) (v := ?_) rfl (by kernel_rfl) (by kernel_rfl) (by kernel_rfl) (fun _ _ _ h => h) rfl (by rfl) ?_ hHeld ?_
    rotate_left 1
    · intro w hSw; (try dsimp only at hSw); go_simp; with_reducible rfl
    simp only [List.setIfInBounds_toArray, List.set_cons_zero, List.set_cons_succ]
    refine takeTF (i := 11) (t := 42) (v := ?_) rfl (by kernel_rfl) (by kernel_rfl) (by kernel_rfl) (fun _ _ _ h => h) rfl (by rfl) ?_ hHeld ?_
    rotate_left 1
    · intro w hSw; (try dsimp only at hSw); go_simp; with_reducible rfl
    simp only [List.setIfInBounds_toArray, List.set_cons_zero, List.set_cons_succ]
    refine takeTF (i := 12) (t := 43) (v := ?_) rfl (by kernel_rfl) (by kernel_rfl) (by kernel_rfl) (fun _ _ _ h => h) rfl (by rfl) ?_ hHeld ?_
    rotate_left 1
    · intro w hSw; (try dsimp only at hSw); go_simp; with_reducible rfl
    simp only [List.setIfInBounds_toArray, List.set_cons_zero, List.set_cons_succ]
    refine takeTF (i := 13) (t := 44) (v := ?_) rfl (by kernel_rfl) (by kernel_rfl) (by kernel_rfl) (fun _ _ _ h => h) rfl (by rfl) ?_ hHeld ?_
    rotate_left 1
    · intro w hSw; (try dsimp only at hSw); go_simp; with_reducible rfl
    simp only [List.setIfInBounds_toArray, List.set_cons_zero, List.set_cons_succ]
    refine takeTF (i := 15) (t := 46) (v := ?_) rfl (by kernel_rfl) (by kernel_rfl) (by kernel_rfl) (fun _ _ _ h => h) rfl (by rfl) ?_ hHeld ?_
    rotate_left 1
    · intro w hSw; (try dsimp only at hSw); go_simp; with_reducible rfl
    simp only [List.setIfInBounds_toArray, List.set_cons_zero, List.set_cons_succ]
    refine takeTF (i := 16) (t := 47) (v := ?_) rfl (by kernel_rfl) (by kernel_rfl) (by kernel_rfl) (fun _ _ _ h => h) rfl (by rfl) ?_ hHeld ?_
    rotate_left 1
    · intro w hSw; (try dsimp only at hSw); go_simp; with_reducible rfl
    simp only [List.setIfInBounds_toArray, List.set_cons_zero, List.set_cons_succ]
    refine wpAnyH_ready (rs := [14]) (by kernel_rfl) (by simp) ?_
    refine AllReadyH.cons rfl (fun K hK => ?_) AllReadyH.nil
    simp only [List.getElem_toArray, List.getElem_cons_succ, List.getElem_cons_zero]
    go_simp
    (have HX0 := HS1.out; refine (HHe.out _ _ _ _ (HQx.out _ HX0) hxv).mono ?_; rintro e u2 ⟨g0, g1, g2, rfl, og, hb2⟩; obtain ⟨gb, gA, gn, gc, gD, gm, gk, rfl, rfl, rfl⟩ := og.cut; have qg := og.in_ (HFG.out) (Nat.le_refl _); have HS2 := hide (below_then HX0 hb2); clear HX0 og)
    go_wp2_with fail
    refine hK.out _ _ (HKS.out _ HS2.out) (fun hHeld => ?_)
    clear hK K
    refine wpAnyH_ready (rs := [17]) (by kernel_rfl) (by simp) ?_
    refine AllReadyH.cons rfl (fun K hK => ?_) AllReadyH.nil
    simp only [List.getElem_toArray, List.getElem_cons_succ, List.getElem_cons_zero]
    go_simp
    (have HX0 := HS2.out; refine (HHf.out _ _ _ _ (HQx.out _ HX0) hxv).mono ?_; rintro e u3 ⟨j0, j1, j2, rfl, oj, hb3⟩; obtain ⟨jb, jA, jn, jc, jD, jm, jk, rfl, rfl, rfl⟩ := oj.cut; have qj := oj.in_ (HFG.out) (Nat.le_refl _); have HS3 := hide (below_then HX0 hb3); clear HX0 oj; have qg := qg.up hb3)
    go_wp2_with fail
    refine hK.out _ _ (HKS.out _ HS3.out) (fun hHeld => ?_)
    clear hK K
    refine wpAnyH_ready (rs := [18]) (by kernel_rfl) (by simp) ?_
    refine AllReadyH.cons rfl (fun K hK => ?_) AllReadyH.nil
    simp only [List.getElem_toArray, List.getElem_cons_succ, List.getElem_cons_zero]
    go_simp
    (have HX0 := HS3.out; refine (HEQ.out _ _ _ _ _ _ _ _ qg qj).mono ?_; rintro e u4 ⟨rfl, hb4⟩; have HS4 := hide (below_then HX0 hb4); clear HX0)
    go_wp2_with fail
    refine hK.out _ _ (HKS.out _ HS4.out) (fun hHeld => ?_)
    clear hK K
    refine takeTF (i := 19) (t := 50) (v := ?_) rfl (by kernel_rfl) (by kernel_rfl) (by kernel_rfl) (fun _ _ _ h => h) rfl (by rfl) ?_ hHeld ?_
    rotate_left 1
    · intro w hSw; (try dsimp only at hSw); go_simp; with_reducible rfl
    simp only [List.setIfInBounds_toArray, List.set_cons_zero, List.set_cons_succ]
    refine takeTF (i := 20) (t := 51) (v := ?_) rfl (by kernel_rfl) (by kernel_rfl) (by kernel_rfl) (fun _ _ _ h => h) rfl (by rfl) ?_ hHeld ?_
    rotate_left 1
    · intro w hSw; (try dsimp only at hSw); go_simp; with_reducible rfl
    simp only [List.setIfInBounds_toArray, List.set_cons_zero, List.set_cons_succ]
    refine takeTF (i := 21) (t := 52) (v := ?_) rfl (by kernel_rfl) (by kernel_rfl) (by kernel_rfl) (fun _ _ _ h => h) rfl (by rfl) ?_ hHeld ?_
    rotate_left 1
    · intro w hSw; (try dsimp only at hSw); go_simp; with_reducible rfl
    simp only [List.setIfInBounds_toArray, List.set_cons_zero, List.set_cons_succ]
    refine wpAnyH_done (by kernel_rfl) ?_ _
    have hb9 := HS4.out
    obtain ⟨w9, hw9⟩ : ∃ x, x = u4 := ⟨_, rfl⟩
    subst hw9
    clear HKS HS0 HS1 HS2 HS3 HS4 HBe HBf HBx HBy
    clear ye0 ye1 ye2 ye3 ye4 ye5 yf0 yf1 yf2 yf3 yf4 yf5 yx0 yx1 yx2 yy0 yy1 yy2
    have hs9 := hb9.size
    have hT9 := below_then hT8 hb9
    have ke := ke.below hb9 ke.lt
    have kf := kf.below hb9 kf.lt
    have kx := kx.below hb9 kx.lt
    have ky := ky.below hb9 ky.lt
    clear hT8
    clear hb9
    clear HQx HQy HX HHe HHf HC1 HC2 HFG
    clear kf
    clear kx
    clear ky
    go_upto_region 9 with fail
    obtain ⟨ye0, ye1, ye2, ye3, ye4, ye5⟩ := ke.cells6
    go_wp2_with fail
    refine (HI1.out w9).mono ?_
    rintro e w10 ⟨a0, a1, a2, rfl, oa, hb10⟩
    clear ye0 ye1 ye2 ye3 ye4 ye5
    obtain ⟨ab, aA, an, ac, aD, am, ak, rfl, rfl, rfl⟩ := oa.cut
    have hs10 := hb10.size
    have hT10 := below_then hT9 hb10
    have ke := ke.below hb10 ke.lt
    clear hT9
    clear hb10
    obtain ⟨w11, hw11⟩ : ∃ xw, xw = (w10.alloc (.cells #[.bool ab, .slice aA an ac, .slice aD am ak] 32)) := ⟨_, rfl⟩
    have hb11 : Below w10.heap.size w10 w11 := by rw [hw11]; exact below_new _ _
    have hq11 : w11.heap.size = w10.heap.size + 1 := by rw [hw11, alloc_size]
    have ka : Box w11 (w10.heap.size) 32 #[.bool ab, .slice aA an ac, .slice aD am ak] := by rw [hw11]; exact Box.last _ _ _ (by omega)
    have hs11 := hb11.size
    have hT11 := below_then hT10 hb11
    have ke := ke.below hb11 ke.lt
    have oa := oa.below hb11 (by omega)
    clear hT10
    go_upto_region 10 with fail
    rw [← hw11]
    clear hw11 hb11
    obtain ⟨ye0, ye1, ye2, ye3, ye4, ye5⟩ := ke.cells6
    go_wp2_with fail
    refine (HLv.out w11).mono ?_
    rintro e w12 ⟨z0, z1, z2, rfl, oz, hb12⟩
    clear ye0 ye1 ye2 ye3 ye4 ye5
    obtain ⟨zb, zA, zn, zc, zD, zm, zk, rfl, rfl, rfl⟩ := oz.cut
    have hs12 := hb12.size
    have hT12 := below_then hT11 hb12
    have ke := ke.below hb12 ke.lt
    have ka := ka.below hb12 ka.lt
    have oa := oa.below hb12 (by omega)
    clear hT11
    clear hb12
    obtain ⟨w13, hw13⟩ : ∃ xw, xw = (w12.alloc (.cells #[.bool zb, .slice zA zn zc, .slice zD zm zk] 32)) := ⟨_, rfl⟩
    have hb13 : Below w12.heap.size w12 w13 := by rw [hw13]; exact below_new _ _
    have hq13 : w13.heap.size = w12.heap.size + 1 := by rw [hw13, alloc_size]
    have kz : Box w13 (w12.heap.size) 32 #[.bool zb, .slice zA zn zc, .slice zD zm zk] := by rw [hw13]; exact Box.last _ _ _ (by omega)
    have hs13 := hb13.size
    have hT13 := below_then hT12 hb13
    have ke := ke.below hb13 ke.lt
    have ka := ka.below hb13 ka.lt
    have oa := oa.below hb13 (by omega)
    have oz := oz.below hb13 (by omega)
    clear hT12
    go_upto_region 11 with fail
    rw [← hw13]
    clear hw13 hb13
    have HQa := hide (fun (W : World) (h : Below w13.heap.size w13 W) => (((oa.in_ (intQ_fit _) (by omega)).below h).wider h.size : QIn W W.heap.size (.bool ab) (.slice aA an ac) (.slice aD am ak) (intQ ex)))
    have HQz := hide (fun (W : World) (h : Below w13.heap.size w13 W) => (((oz.in_ HFL.out (by omega)).below h).wider h.size : QIn W W.heap.size (.bool zb) (.slice zA zn zc) (.slice zD zm zk) RL))
    clear oa oz
    by_cases c0 : ey = ev
    · subst c0
      clear HLq
      have hd1 : (ey != ey) = false := by simp
      have hd2 : decide (ey ≠ ey) = false := by simp
      have HBe := hide ke
      have HBa := hide ka
      have HBz := hide kz
      have HS0 : Hid (Below w13.heap.size w13 w13.drew) := (Below.refl _ _).drew
      have HKS := hide (fun (W : World) (hq : Below w13.heap.size w13 W) => (⟨(HBe.out.below hq HBe.out.lt).cell 0, (HBe.out.below hq HBe.out.lt).cell 1, (HBe.out.below hq HBe.out.lt).cell 2, (HBe.out.below hq HBe.out.lt).cell 3, (HBe.out.below hq HBe.out.lt).cell 4, (HBe.out.below hq HBe.out.lt).cell 5, (HBa.out.below hq HBa.out.lt).cell 0, (HBa.out.below hq HBa.out.lt).cell 1, (HBa.out.below hq HBa.out.lt).cell 2, (HBz.out.below hq HBz.out.lt).cell 0, (HBz.out.below hq HBz.out.lt).cell 1, (HBz.out.below hq HBz.out.lt).cell 2⟩ : W.cell? ⟨w1.heap.size, 0, none⟩ = some (.int .i64 ex) ∧ W.cell? ⟨w1.heap.size, 1, none⟩ = some (.int .i64 ey) ∧ W.cell? ⟨w1.heap.size, 2, none⟩ = some (.int .i64 eu) ∧ W.cell? ⟨w1.heap.size, 3, none⟩ = some (.int .i64 ey) ∧ W.cell? ⟨w1.heap.size, 4, none⟩ = some (.int .i64 0) ∧ W.cell? ⟨w1.heap.size, 5, none⟩ = some (.bool el) ∧ W.cell? ⟨w10.heap.size, 0, none⟩ = some (.bool ab) ∧ W.cell? ⟨w10.heap.size, 1, none⟩ = some (.slice aA an ac) ∧ W.cell? ⟨w10.heap.size, 2, none⟩ = some (.slice aD am ak) ∧ W.cell? ⟨w12.heap.size, 0, none⟩ = some (.bool zb) ∧ W.cell? ⟨w12.heap.size, 1, none⟩ = some (.slice zA zn zc) ∧ W.cell? ⟨w12.heap.size, 2, none⟩ = some (.slice zD zm zk)))
      obtain ⟨ye0, ye1, ye2, ye3, ye4, ye5⟩ := ke.cells6
      obtain ⟨ya0, ya1, ya2⟩ := ka.cells3
      obtain ⟨yz0, yz1, yz2⟩ := kz.cells3
      refine wp_region_held_drew (S := (fun w' => w'.cell? ⟨w1.heap.size, 0, none⟩ = some (.int .i64 ex) ∧ w'.cell? ⟨w1.heap.size, 1, none⟩ = some (.int .i64 ey) ∧ w'.cell? ⟨w1.heap.size, 2, none⟩ = some (.int .i64 eu) ∧ w'.cell? ⟨w1.heap.size, 3, none⟩ = some (.int .i64 ey) ∧ w'.cell? ⟨w1.heap.size, 4, none⟩ = some (.int .i64 0) ∧ w'.cell? ⟨w1.heap.size, 5, none⟩ = some (.bool el) ∧ w'.cell? ⟨w10.heap.size, 0, none⟩ = some (.bool ab) ∧ w'.cell? ⟨w10.heap.size, 1, none⟩ = some (.slice aA an ac) ∧ w'.cell? ⟨w10.heap.size, 2, none⟩ = some (.slice aD am ak) ∧ w'.cell? ⟨w12.heap.size, 0, none⟩ = some (.bool zb) ∧ w'.cell? ⟨w12.heap.size, 1, none⟩ = some (.slice zA zn zc) ∧ w'.cell? ⟨w12.heap.size, 2, none⟩ = some (.slice zD zm zk))) (by kernel_rfl) (HKS.out _ HS0.out) (fun hHeld => ?_)
      show wpAnyH _ _ _ _ _ 42 _ _ _
      refine takeTF (i := 0) (t := 65) (v := ?_) rfl (by kernel_rfl) (by kernel_rfl) (by kernel_rfl) (fun _ _ _ h => h) rfl (by rfl) ?_ hHeld ?_
      rotate_left 1
      · intro w hSw; (try dsimp only at hSw); go_simp; with_reducible rfl
      simp only [List.setIfInBounds_toArray, List.set_cons_zero, List.set_cons_succ]
      refine wpAnyH_ready (rs := [1]) (by kernel_rfl) (by simp) ?_
      refine AllReadyH.cons rfl (fun K hK => ?_) AllReadyH.nil
      simp only [List.getElem_toArray, List.getElem_cons_succ, List.getElem_cons_zero]
      go_simp
      (have HX0 := HS0.out; refine (HV.out _).mono ?_; rintro e u1 ⟨rfl, hb1⟩; have HS1 := hide (below_then HX0 hb1); clear HX0)
      go_wp2_with fail
      refine hK.out _ _ (HKS.out _ HS1.out) (fun hHeld => ?_)
      clear hK K
      refine takeTF (i := 2) (t := 67) (v := ?_) rfl (by kernel_rfl) (by kernel_rfl) (by kernel_rfl) (fun _ _ _ h => h) rfl (by rfl) ?_ hHeld ?_
      rotate_left 1
      · intro w hSw; (try dsimp only at hSw); go_simp; with_reducible rfl
      simp only [List.setIfInBounds_toArray, List.set_cons_zero, List.set_cons_succ]
      refine takeTF (i := 3) (t := 68) (v := ?_) rfl (by kernel_rfl) (by kernel_rfl) (by kernel_rfl) (fun _ _ _ h => h) rfl (by rfl) ?_ hHeld ?_
      rotate_left 1
      · intro w hSw; (try dsimp only at hSw); go_simp; with_reducible rfl
      simp only [List.setIfInBounds_toArray, List.set_cons_zero, List.set_cons_succ]
      refine takeTF (i := 4) (t := 69) (v := ?_) rfl (by kernel_rfl) (by kernel_rfl) (by kernel_rfl) (fun _ _ _ h => h) rfl (by rfl) ?_ hHeld ?_
      rotate_left 1
      · intro w hSw; (try dsimp only at hSw); go_simp; with_reducible rfl
      simp only [List.setIfInBounds_toArray, List.set_cons_zero, List.set_cons_succ]
      refine takeTF (i := 6) (t := 71) (v := ?_) rfl (by kernel_rfl) (by kernel_rfl) (by kernel_rfl) (fun _ _ _ h => h) rfl (by rfl) ?_ hHeld ?_
      rotate_left 1
      · intro w hSw; (try dsimp only at hSw); go_simp; with_reducible rfl
      simp only [List.setIfInBounds_toArray, List.set_cons_zero, List.set_cons_succ]
      refine takeTF (i := 7) (t := 72) (v := ?_) rfl (by kernel_rfl) (by kernel_rfl) (by kernel_rfl) (fun _ _ _ h => h) rfl (by rfl) ?_ hHeld ?_
      rotate_left 1
      · intro w hSw; (try dsimp only at hSw); go_simp; with_reducible rfl
      simp only [List.setIfInBounds_toArray, List.set_cons_zero, List.set_cons_succ]
      refine takeTF (i := 8) (t := 73) (v := ?_) rfl (by kernel_rfl) (by kernel_rfl) (by kernel_rfl) (fun _ _ _ h => h) rfl (by rfl) ?_ hHeld ?_
      rotate_left 1
      · intro w hSw; (try dsimp only at hSw); go_simp; with_reducible rfl
      simp only [List.setIfInBounds_toArray, List.set_cons_zero, List.set_cons_succ]
      refine wpAnyH_ready (rs := [5]) (by kernel_rfl) (by simp) ?_
      refine AllReadyH.cons rfl (fun K hK => ?_) AllReadyH.nil
      simp only [List.getElem_toArray, List.getElem_cons_succ, List.getElem_cons_zero]
      go_simp
      (have HX0 := HS1.out; refine (HHa.out _ _ _ _ (HQa.out _ HX0)).mono ?_; rintro e u2 ⟨g0, g1, g2, rfl, og, hb2⟩; obtain ⟨gb, gA, gn, gc, gD, gm, gk, rfl, rfl, rfl⟩ := og.cut; have qg := og.in_ (intQ_fit _) (Nat.le_refl _); have HS2 := hide (below_then HX0 hb2); clear HX0 og)
      go_wp2_with fail
      refine hK.out _ _ (HKS.out _ HS2.out) (fun hHeld => ?_)
      clear hK K
      refine wpAnyH_ready (rs := [9]) (by kernel_rfl) (by simp) ?_
      refine AllReadyH.cons rfl (fun K hK => ?_) AllReadyH.nil
      simp only [List.getElem_toArray, List.getElem_cons_succ, List.getElem_cons_zero]
      go_simp
      (have HX0 := HS2.out; refine (HI2.out _).mono ?_; rintro e u3 ⟨j0, j1, j2, rfl, oj, hb3⟩; obtain ⟨jb, jA, jn, jc, jD, jm, jk, rfl, rfl, rfl⟩ := oj.cut; have qj := oj.in_ (intQ_fit _) (Nat.le_refl _); have HS3 := hide (below_then HX0 hb3); clear HX0 oj; have qg := qg.up hb3)
      go_wp2_with fail
      refine hK.out _ _ (HKS.out _ HS3.out) (fun hHeld => ?_)
      clear hK K
      refine wpAnyH_ready (rs := [10]) (by kernel_rfl) (by simp) ?_
      refine AllReadyH.cons rfl (fun K hK => ?_) AllReadyH.nil
      simp only [List.getElem_toArray, List.getElem_cons_succ, List.getElem_cons_zero]
      go_simp
      (have HX0 := HS3.out; refine (HEQ.out _ _ _ _ _ _ _ _ qg qj).mono ?_; rintro e u4 ⟨rfl, hb4⟩; have HS4 := hide (below_then HX0 hb4); clear HX0)
      go_wp2_with fail
      refine hK.out _ _ (HKS.out _ HS4.out) (fun hHeld => ?_)
      clear hK K
      refine takeTF (i := 11) (t := 76) (v := ?_) rfl (by kernel_rfl) (by kernel_rfl) (by kernel_rfl) (fun _ _ _ h => h) rfl (by rfl) ?_ hHeld ?_
      rotate_left 1
      · intro w hSw; (try dsimp only at hSw); go_simp; with_reducible rfl
      simp only [List.setIfInBounds_toArray, List.set_cons_zero, List.set_cons_succ]
      refine takeTF (i := 12) (t := 77) (v := ?_) rfl (by kernel_rfl) (by kernel_rfl) (by kernel_rfl) (fun _ _ _ h => h) rfl (by rfl) ?_ hHeld ?_
      rotate_left 1
      · intro w hSw; (try dsimp only at hSw); go_simp; with_reducible rfl
      simp only [List.setIfInBounds_toArray, List.set_cons_zero, List.set_cons_succ]
      refine takeTF (i := 13) (t := 78) (v := ?_) rfl (by kernel_rfl) (by kernel_rfl) (by kernel_rfl) (fun _ _ _ h => h) rfl (by rfl) ?_ hHeld ?_
      rotate_left 1
      · intro w hSw; (try dsimp only at hSw); go_simp; with_reducible rfl
      simp only [List.setIfInBounds_toArray, List.set_cons_zero, List.set_cons_succ]
      refine takeTF (i := 14) (t := 79) (v := ?_) rfl (by kernel_rfl) (by kernel_rfl) (by kernel_rfl) (fun _ _ _ h => h) rfl (by rfl) ?_ hHeld ?_
      rotate_left 1
      · intro w hSw; (try dsimp only at hSw); go_simp; with_reducible rfl
      simp only [List.setIfInBounds_toArray, List.set_cons_zero, List.set_cons_succ]
      refine takeTF (i := 15) (t := 80) (v := ?_) rfl (by kernel_rfl) (by kernel_rfl) (by kernel_rfl) (fun _ _ _ h => h) rfl (by rfl) ?_ hHeld ?_
      rotate_left 1
      · intro w hSw; (try dsimp only at hSw); go_simp; with_reducible rfl
      simp only [List.setIfInBounds_toArray, List.set_cons_zero, List.set_cons_succ]
      refine takeTF (i := 16) (t := 81) (v := ?_) rfl (by kernel_rfl) (by kernel_rfl) (by kernel_rfl) (fun _ _ _ h => h) rfl (by rfl) ?_ hHeld ?_
      rotate_left 1
      · intro w hSw; (try dsimp only at hSw); go_simp; with_reducible rfl
      simp only [List.setIfInBounds_toArray, List.set_cons_zero, List.set_cons_succ]
      refine takeTF (i := 17) (t := 82) (v := ?_) rfl (by kernel_rfl) (by kernel_rfl) (by kernel_rfl) (fun _ _ _ h => h) rfl (by rfl) ?_ hHeld ?_
      rotate_left 1
      · intro w hSw; (try dsimp only at hSw); go_simp; with_reducible rfl
      simp only [List.setIfInBounds_toArray, List.set_cons_zero, List.set_cons_succ]
      refine wpAnyH_ready (rs := [18]) (by kernel_rfl) (by simp) ?_
      refine AllReadyH.cons rfl (fun K hK => ?_) AllReadyH.nil
      simp only [List.getElem_toArray, List.getElem_cons_succ, List.getElem_cons_zero]
      go_simp
      (have HX0 := HS4.out; refine (HI3.out _).mono ?_; rintro e u5 ⟨m0, m1, m2, rfl, om, hb5⟩; obtain ⟨mb, mA, mn, mc, mD, mm, mk, rfl, rfl, rfl⟩ := om.cut; have qm := om.in_ (intQ_fit _) (Nat.le_refl _); have HS5 := hide (below_then HX0 hb5); clear HX0 om)
      go_wp2_with fail
      refine hK.out _ _ (HKS.out _ HS5.out) (fun hHeld => ?_)
      clear hK K
      refine wpAnyH_ready (rs := [19]) (by kernel_rfl) (by simp) ?_
      refine AllReadyH.cons rfl (fun K hK => ?_) AllReadyH.nil
      simp only [List.getElem_toArray, List.getElem_cons_succ, List.getElem_cons_zero]
      go_simp
      (have HX0 := HS5.out; refine (HSp.out _ _ _ _ _ _ _ (HQa.out _ HX0) qm).mono ?_; rintro e u6 ⟨rfl, hb6⟩; have HS6 := hide (below_then HX0 hb6); clear HX0)
      go_wp2_with fail
      refine hK.out _ _ (HKS.out _ HS6.out) (fun hHeld => ?_)
      clear hK K
      refine takeTF (i := 20) (t := 85) (v := ?_) rfl (by kernel_rfl) (by kernel_rfl) (by kernel_rfl) (fun _ _ _ h => h) rfl (by rfl) ?_ hHeld ?_
      rotate_left 1
      · intro w hSw; (try dsimp only at hSw); go_simp; with_reducible rfl
      simp only [List.setIfInBounds_toArray, List.set_cons_zero, List.set_cons_succ]
      refine takeTF (i := 21) (t := 86) (v := ?_) rfl (by kernel_rfl) (by kernel_rfl) (by kernel_rfl) (fun _ _ _ h => h) rfl (by rfl) ?_ hHeld ?_
      rotate_left 1
      · intro w hSw; (try dsimp only at hSw); go_simp; with_reducible rfl
      simp only [List.setIfInBounds_toArray, List.set_cons_zero, List.set_cons_succ]
      refine takeTF (i := 22) (t := 87) (v := ?_) rfl (by kernel_rfl) (by kernel_rfl) (by kernel_rfl) (fun _ _ _ h => h) rfl (by rfl) ?_ hHeld ?_
      rotate_left 1
      · intro w hSw; (try dsimp only at hSw); go_simp; with_reducible rfl
      simp only [List.setIfInBounds_toArray, List.set_cons_zero, List.set_cons_succ]
      refine takeTF (i := 23) (t := 88) (v := ?_) rfl (by kernel_rfl) (by kernel_rfl) (by kernel_rfl) (fun _ _ _ h => h) rfl (by rfl) ?_ hHeld ?_
      rotate_left 1
      · intro w hSw; (try dsimp only at hSw); go_simp; with_reducible rfl
      simp only [List.setIfInBounds_toArray, List.set_cons_zero, List.set_cons_succ]
      refine takeTF (i := 24) (t := 89) (v := ?_) rfl (by kernel_rfl) (by kernel_rfl) (by kernel_rfl) (fun _ _ _ h => h) rfl (by rfl) ?_ hHeld ?_
      rotate_left 1
      · intro w hSw; (try dsimp only at hSw); go_simp; with_reducible rfl
      simp only [List.setIfInBounds_toArray, List.set_cons_zero, List.set_cons_succ]
      refine takeTF (i := 25) (t := 90) (v := ?_) rfl (by kernel_rfl) (by kernel_rfl) (by kernel_rfl) (fun _ _ _ h => h) rfl (by rfl) ?_ hHeld ?_
      rotate_left 1
      · intro w hSw; (try dsimp only at hSw); go_simp; with_reducible rfl
      simp only [List.setIfInBounds_toArray, List.set_cons_zero, List.set_cons_succ]
      refine takeTF (i := 26) (t := 91) (v := ?_) rfl (by kernel_rfl) (by kernel_rfl) (by kernel_rfl) (fun _ _ _ h => h) rfl (by rfl) ?_ hHeld ?_
      rotate_left 1
      · intro w hSw; (try dsimp only at hSw); go_simp; with_reducible rfl
      simp only [List.setIfInBounds_toArray, List.set_cons_zero, List.set_cons_succ]
      refine takeTF (i := 27) (t := 92) (v := ?_) rfl (by kernel_rfl) (by kernel_rfl) (by kernel_rfl) (fun _ _ _ h => h) rfl (by rfl) ?_ hHeld ?_
      rotate_left 1
      · intro w hSw; (try dsimp only at hSw); go_simp; with_reducible rfl
      simp only [List.setIfInBounds_toArray, List.set_cons_zero, List.set_cons_succ]
      refine takeTF (i := 28) (t := 93) (v := ?_) rfl (by kernel_rfl) (by kernel_rfl) (by kernel_rfl) (fun _ _ _ h => h) rfl (by rfl) ?_ hHeld ?_
      rotate_left 1
      · intro w hSw; (try dsimp only at hSw); go_simp; with_reducible rfl
      simp only [List.setIfInBounds_toArray, List.set_cons_zero, List.set_cons_succ]
      refine takeTF (i := 29) (t := 94) (v := ?_) rfl (by kernel_rfl) (by kernel_rfl) (by kernel_rfl) (fun _ _ _ h => h) rfl (by rfl) ?_ hHeld ?_
      rotate_left 1
      · intro w hSw; (try dsimp only at hSw); go_simp; with_reducible rfl
      simp only [List.setIfInBounds_toArray, List.set_cons_zero, List.set_cons_succ]
      refine takeTF (i := 30) (t := 95) (v := ?_) rfl (by kernel_rfl) (by kernel_rfl) (by kernel_rfl) (fun _ _ _ h => h) rfl (by rfl) ?_ hHeld ?_
      rotate_left 1
      · intro w hSw; (try dsimp only at hSw); go_simp; with_reducible rfl
      simp only [List.setIfInBounds_toArray, List.set_cons_zero, List.set_cons_succ]
      refine takeTF (i := 31) (t := 96) (v := ?_) rfl (by kernel_rfl) (by kernel_rfl) (by kernel_rfl) (fun _ _ _ h => h) rfl (by rfl) ?_ hHeld ?_
      rotate_left 1
      · intro w hSw; (try dsimp only at hSw); go_simp; with_reducible rfl
      simp only [List.setIfInBounds_toArray, List.set_cons_zero, List.set_cons_succ]
      refine takeTF (i := 32) (t := 97) (v := ?_) rfl (by kernel_rfl) (by kernel_rfl) (by kernel_rfl) (fun _ _ _ h => h) rfl (by rfl) ?_ hHeld ?_
      rotate_left 1
      · intro w hSw; (try dsimp only at hSw); go_simp; with_reducible rfl
      simp only [List.setIfInBounds_toArray, List.set_cons_zero, List.set_cons_succ]
      refine takeTF (i := 33) (t := 98) (v := ?_) rfl (by kernel_rfl) (by kernel_rfl) (by kernel_rfl) (fun _ _ _ h => h) rfl (by rfl) ?_ hHeld ?_
      rotate_left 1
      · intro w hSw; (try dsimp only at hSw); go_simp; with_reducible rfl
      simp only [List.setIfInBounds_toArray, List.set_cons_zero, List.set_cons_succ]
      refine takeTF (i := 34) (t := 99) (v := ?_) rfl (by kernel_rfl) (by kernel_rfl) (by kernel_rfl) (fun _ _ _ h => h) rfl (by rfl) ?_ hHeld ?_
      rotate_left 1
      · intro w hSw; (try dsimp only at hSw); go_simp; with_reducible rfl
      simp only [List.setIfInBounds_toArray, List.set_cons_zero, List.set_cons_succ]
      refine takeTF (i := 35) (t := 100) (v := ?_) rfl (by kernel_rfl) (by kernel_rfl) (by kernel_rfl) (fun _ _ _ h => h) rfl (by rfl) ?_ hHeld ?_
      rotate_left 1
      · intro w hSw; (try dsimp only at hSw); go_simp; with_reducible rfl
      simp only [List.setIfInBounds_toArray, List.set_cons_zero, List.set_cons_succ]
      refine skipTF (i := 36) (t := 101) rfl (by kernel_rfl) (by kernel_rfl) (by kernel_rfl) (fun _ _ _ h => h) rfl (by rfl) hHeld ?_
      simp only [List.setIfInBounds_toArray, List.set_cons_zero, List.set_cons_succ]
      refine skipTF (i := 37) (t := 102) rfl (by kernel_rfl) (by kernel_rfl) (by kernel_rfl) (fun _ _ _ h => h) rfl (by rfl) hHeld ?_
      simp only [List.setIfInBounds_toArray, List.set_cons_zero, List.set_cons_succ]
      refine skipCF (i := 38) (t := 103) (by kernel_rfl) rfl rfl (by rfl) hHeld ?_
      simp only [List.setIfInBounds_toArray, List.set_cons_zero, List.set_cons_succ]
      refine takeTF (i := 39) (t := 104) (v := ?_) rfl (by kernel_rfl) (by kernel_rfl) (by kernel_rfl) (fun _ _ _ h => h) rfl (by rfl) ?_ hHeld ?_
      rotate_left 1
      · intro w hSw; (try dsimp only at hSw); go_simp; with_reducible rfl
      simp only [List.setIfInBounds_toArray, List.set_cons_zero, List.set_cons_succ]
      refine takeTF (i := 40) (t := 105) (v := ?_) rfl (by kernel_rfl) (by kernel_rfl) (by kernel_rfl) (fun _ _ _ h => h) rfl (by rfl) ?_ hHeld ?_
      rotate_left 1
      · intro w hSw; (try dsimp only at hSw); go_simp; with_reducible rfl
      simp only [List.setIfInBounds_toArray, List.set_cons_zero, List.set_cons_succ]
      refine takeTF (i := 41) (t := 2) (v := ?_) rfl (by kernel_rfl) (by kernel_rfl) (by kernel_rfl) (fun _ _ _ h => h) rfl (by rfl) ?_ hHeld ?_
      rotate_left 1
      · intro w hSw; (try dsimp only at hSw); go_simp; with_reducible rfl
      simp only [List.setIfInBounds_toArray, List.set_cons_zero, List.set_cons_succ]
      refine wpAnyH_done (by kernel_rfl) ?_ _
      have hb14 := HS6.out
      obtain ⟨w14, hw14⟩ : ∃ x, x = u6 := ⟨_, rfl⟩
      subst hw14
      clear HKS HS0 HS1 HS2 HS3 HS4 HS5 HS6 HBe HBa HBz
      clear ye0 ye1 ye2 ye3 ye4 ye5 ya0 ya1 ya2 yz0 yz1 yz2
      have hs14 := hb14.size
      have hT14 := below_then hT13 hb14
      have ke := ke.below hb14 ke.lt
      have ka := ka.below hb14 ka.lt
      have kz := kz.below hb14 kz.lt
      clear hT13
      clear hb14
      go_wp2_with fail
      go_ret
      exact ⟨by first | rfl | simp, hT14⟩
    · have hRL := HLq.out c0
      subst hRL
      have hd1 : (ey != ev) = true := bne_iff_ne.2 c0
      have hd2 : decide (ey ≠ ev) = true := decide_eq_true c0
      have hd3 : (ey == ev) = false := beq_eq_false_iff_ne.2 c0
      have HBe := hide ke
      have HBa := hide ka
      have HBz := hide kz
      have HS0 : Hid (Below w13.heap.size w13 w13.drew) := (Below.refl _ _).drew
      have HKS := hide (fun (W : World) (hq : Below w13.heap.size w13 W) => (⟨(HBe.out.below hq HBe.out.lt).cell 0, (HBe.out.below hq HBe.out.lt).cell 1, (HBe.out.below hq HBe.out.lt).cell 2, (HBe.out.below hq HBe.out.lt).cell 3, (HBe.out.below hq HBe.out.lt).cell 4, (HBe.out.below hq HBe.out.lt).cell 5, (HBa.out.below hq HBa.out.lt).cell 0, (HBa.out.below hq HBa.out.lt).cell 1, (HBa.out.below hq HBa.out.lt).cell 2, (HBz.out.below hq HBz.out.lt).cell 0, (HBz.out.below hq HBz.out.lt).cell 1, (HBz.out.below hq HBz.out.lt).cell 2⟩ : W.cell? ⟨w1.heap.size, 0, none⟩ = some (.int .i64 ex) ∧ W.cell? ⟨w1.heap.size, 1, none⟩ = some (.int .i64 ey) ∧ W.cell? ⟨w1.heap.size, 2, none⟩ = some (.int .i64 eu) ∧ W.cell? ⟨w1.heap.size, 3, none⟩ = some (.int .i64 ev) ∧ W.cell? ⟨w1.heap.size, 4, none⟩ = some (.int .i64 0) ∧ W.cell? ⟨w1.heap.size, 5, none⟩ = some (.bool el) ∧ W.cell? ⟨w10.heap.size, 0, none⟩ = some (.bool ab) ∧ W.cell? ⟨w10.heap.size, 1, none⟩ = some (.slice aA an ac) ∧ W.cell? ⟨w10.heap.size, 2, none⟩ = some (.slice aD am ak) ∧ W.cell? ⟨w12.heap.size, 0, none⟩ = some (.bool zb) ∧ W.cell? ⟨w12.heap.size, 1, none⟩ = some (.slice zA zn zc) ∧ W.cell? ⟨w12.heap.size, 2, none⟩ = some (.slice zD zm zk)))
      obtain ⟨ye0, ye1, ye2, ye3, ye4, ye5⟩ := ke.cells6
      obtain ⟨ya0, ya1, ya2⟩ := ka.cells3
      obtain ⟨yz0, yz1, yz2⟩ := kz.cells3
      refine wp_region_held_drew (S := (fun w' => w'.cell? ⟨w1.heap.size, 0, none⟩ = some (.int .i64 ex) ∧ w'.cell? ⟨w1.heap.size, 1, none⟩ = some (.int .i64 ey) ∧ w'.cell? ⟨w1.heap.size, 2, none⟩ = some (.int .i64 eu) ∧ w'.cell? ⟨w1.heap.size, 3, none⟩ = some (.int .i64 ev) ∧ w'.cell? ⟨w1.heap.size, 4, none⟩ = some (.int .i64 0) ∧ w'.cell? ⟨w1.heap.size, 5, none⟩ = some (.bool el) ∧ w'.cell? ⟨w10.heap.size, 0, none⟩ = some (.bool ab) ∧ w'.cell? ⟨w10.heap.size, 1, none⟩ = some (.slice aA an ac) ∧ w'.cell? ⟨w10.heap.size, 2, none⟩ = some (.slice aD am ak) ∧ w'.cell? ⟨w12.heap.size, 0, none⟩ = some (.bool zb) ∧ w'.cell? ⟨w12.heap.size, 1, none⟩ = some (.slice zA zn zc) ∧ w'.cell? ⟨w12.heap.size, 2, none⟩ = some (.slice zD zm zk))) (by kernel_rfl) (HKS.out _ HS0.out) (fun hHeld => ?_)
      show wpAnyH _ _ _ _ _ 42 _ _ _
      refine takeTF (i := 0) (t := 65) (v := ?_) rfl (by kernel_rfl) (by kernel_rfl) (by kernel_rfl) (fun _ _ _ h => h) rfl (by rfl) ?_ hHeld ?_
      rotate_left 1
      · intro w hSw; (try dsimp only at hSw); go_simp; with_reducible rfl
      simp only [List.setIfInBounds_toArray, List.set_cons_zero, List.set_cons_succ]
      refine wpAnyH_ready (rs := [1]) (by kernel_rfl) (by simp) ?_
      refine AllReadyH.cons rfl (fun K hK => ?_) AllReadyH.nil
      simp only [List.getElem_toArray, List.getElem_cons_succ, List.getElem_cons_zero]
      go_simp
      (have HX0 := HS0.out; refine (HV.out _).mono ?_; rintro e u1 ⟨rfl, hb1⟩; have HS1 := hide (below_then HX0 hb1); clear HX0)
      go_wp2_with fail
      refine hK.out _ _ (HKS.out _ HS1.out) (fun hHeld => ?_)
      clear hK K
      refine takeTF (i := 2) (t := 67) (v := ?_) rfl (by kernel_rfl) (by kernel_rfl) (by kernel_rfl) (fun _ _ _ h => h) rfl (by rfl) ?_ hHeld ?_
      rotate_left 1
      · intro w hSw; (try dsimp only at hSw); go_simp; with_reducible rfl
      simp only [List.setIfInBounds_toArray, List.set_cons_zero, List.set_cons_succ]
      refine takeTF (i := 3) (t := 68) (v := ?_) rfl (by kernel_rfl) (by kernel_rfl) (by kernel_rfl) (fun _ _ _ h => h) rfl (by rfl) ?_ hHeld ?_
      rotate_left 1
      · intro w hSw; (try dsimp only at hSw); go_simp; with_reducible rfl
      simp only [List.setIfInBounds_toArray, List.set_cons_zero, List.set_cons_succ]
      refine takeTF (i := 4) (t := 69) (v := ?_) rfl (by kernel_rfl) (by kernel_rfl) (by kernel_rfl) (fun _ _ _ h => h) rfl (by rfl) ?_ hHeld ?_
      rotate_left 1
      · intro w hSw; (try dsimp only at hSw); go_simp; with_reducible rfl
      simp only [List.setIfInBounds_toArray, List.set_cons_zero, List.set_cons_succ]
      refine takeTF (i := 6) (t := 71) (v := ?_) rfl (by kernel_rfl) (by kernel_rfl) (by kernel_rfl) (fun _ _ _ h => h) rfl (by rfl) ?_ hHeld ?_
      rotate_left 1
      · intro w hSw; (try dsimp only at hSw); go_simp; with_reducible rfl
      simp only [List.setIfInBounds_toArray, List.set_cons_zero, List.set_cons_succ]
      refine takeTF (i := 7) (t := 72) (v := ?_) rfl (by kernel_rfl) (by kernel_rfl) (by kernel_rfl) (fun _ _ _ h => h) rfl (by rfl) ?_ hHeld ?_
      rotate_left 1
      · intro w hSw; (try dsimp only at hSw); go_simp; with_reducible rfl
      simp only [List.setIfInBounds_toArray, List.set_cons_zero, List.set_cons_succ]
      refine takeTF (i := 8) (t := 73) (v := ?_) rfl (by kernel_rfl) (by kernel_rfl) (by kernel_rfl) (fun _ _ _ h => h) rfl (by rfl) ?_ hHeld ?_
      rotate_left 1
      · intro w hSw; (try dsimp only at hSw); go_simp; with_reducible rfl
      simp only [List.setIfInBounds_toArray, List.set_cons_zero, List.set_cons_succ]
      refine wpAnyH_ready (rs := [5]) (by kernel_rfl) (by simp) ?_
      refine AllReadyH.cons rfl (fun K hK => ?_) AllReadyH.nil
      simp only [List.getElem_toArray, List.getElem_cons_succ, List.getElem_cons_zero]
      go_simp
      (have HX0 := HS1.out; refine (HHa.out _ _ _ _ (HQa.out _ HX0)).mono ?_; rintro e u2 ⟨g0, g1, g2, rfl, og, hb2⟩; obtain ⟨gb, gA, gn, gc, gD, gm, gk, rfl, rfl, rfl⟩ := og.cut; have qg := og.in_ (intQ_fit _) (Nat.le_refl _); have HS2 := hide (below_then HX0 hb2); clear HX0 og)
      go_wp2_with fail
      refine hK.out _ _ (HKS.out _ HS2.out) (fun hHeld => ?_)
      clear hK K
      refine wpAnyH_ready (rs := [9]) (by kernel_rfl) (by simp) ?_
      refine AllReadyH.cons rfl (fun K hK => ?_) AllReadyH.nil
      simp only [List.getElem_toArray, List.getElem_cons_succ, List.getElem_cons_zero]
      go_simp
      (have HX0 := HS2.out; refine (HI2.out _).mono ?_; rintro e u3 ⟨j0, j1, j2, rfl, oj, hb3⟩; obtain ⟨jb, jA, jn, jc, jD, jm, jk, rfl, rfl, rfl⟩ := oj.cut; have qj := oj.in_ (intQ_fit _) (Nat.le_refl _); have HS3 := hide (below_then HX0 hb3); clear HX0 oj; have qg := qg.up hb3)
      go_wp2_with fail
      refine hK.out _ _ (HKS.out _ HS3.out) (fun hHeld => ?_)
      clear hK K
      refine wpAnyH_ready (rs := [10]) (by kernel_rfl) (by simp) ?_
      refine AllReadyH.cons rfl (fun K hK => ?_) AllReadyH.nil
      simp only [List.getElem_toArray, List.getElem_cons_succ, List.getElem_cons_zero]
      go_simp
      (have HX0 := HS3.out; refine (HEQ.out _ _ _ _ _ _ _ _ qg qj).mono ?_; rintro e u4 ⟨rfl, hb4⟩; have HS4 := hide (below_then HX0 hb4); clear HX0)
      go_wp2_with fail
      refine hK.out _ _ (HKS.out _ HS4.out) (fun hHeld => ?_)
      clear hK K
      refine takeTF (i := 11) (t := 76) (v := ?_) rfl (by kernel_rfl) (by kernel_rfl) (by kernel_rfl) (fun _ _ _ h => h) rfl (by rfl) ?_ hHeld ?_
      rotate_left 1
      · intro w hSw; (try dsimp only at hSw); go_simp; with_reducible rfl
      simp only [List.setIfInBounds_toArray, List.set_cons_zero, List.set_cons_succ]
      refine takeTF (i := 12) (t := 77) (v := ?_) rfl (by kernel_rfl) (by kernel_rfl) (by kernel_rfl) (fun _ _ _ h => h) rfl (by rfl) ?_ hHeld ?_
      rotate_left 1
      · intro w hSw; (try dsimp only at hSw); go_simp; with_reducible rfl
      simp only [List.setIfInBounds_toArray, List.set_cons_zero, List.set_cons_succ]
      refine takeTF (i := 13) (t := 78) (v := ?_) rfl (by kernel_rfl) (by kernel_rfl) (by kernel_rfl) (fun _ _ _ h => h) rfl (by rfl) ?_ hHeld ?_
      rotate_left 1
      · intro w hSw; (try dsimp only at hSw); go_simp; with_reducible rfl
      simp only [List.setIfInBounds_toArray, List.set_cons_zero, List.set_cons_succ]
      refine takeTF (i := 14) (t := 79) (v := ?_) rfl (by kernel_rfl) (by kernel_rfl) (by kernel_rfl) (fun _ _ _ h => h) rfl (by rfl) ?_ hHeld ?_
      rotate_left 1
      · intro w hSw; (try dsimp only at hSw); go_simp; with_reducible rfl
      simp only [List.setIfInBounds_toArray, List.set_cons_zero, List.set_cons_succ]
      refine takeTF (i := 15) (t := 80) (v := ?_) rfl (by kernel_rfl) (by kernel_rfl) (by kernel_rfl) (fun _ _ _ h => h) rfl (by rfl) ?_ hHeld ?_
      rotate_left 1
      · intro w hSw; (try dsimp only at hSw); go_simp; with_reducible rfl
      simp only [List.setIfInBounds_toArray, List.set_cons_zero, List.set_cons_succ]
      refine takeTF (i := 16) (t := 81) (v := ?_) rfl (by kernel_rfl) (by kernel_rfl) (by kernel_rfl) (fun _ _ _ h => h) rfl (by rfl) ?_ hHeld ?_
      rotate_left 1
      · intro w hSw; (try dsimp only at hSw); go_simp; with_reducible rfl
      simp only [List.setIfInBounds_toArray, List.set_cons_zero, List.set_cons_succ]
      refine takeTF (i := 17) (t := 82) (v := ?_) rfl (by kernel_rfl) (by kernel_rfl) (by kernel_rfl) (fun _ _ _ h => h) rfl (by rfl) ?_ hHeld ?_
      rotate_left 1
      · intro w hSw; (try dsimp only at hSw); go_simp; with_reducible rfl
      simp only [List.setIfInBounds_toArray, List.set_cons_zero, List.set_cons_succ]
      refine wpAnyH_ready (rs := [18]) (by kernel_rfl) (by simp) ?_
      refine AllReadyH.cons rfl (fun K hK => ?_) AllReadyH.nil
      simp only [List.getElem_toArray, List.getElem_cons_succ, List.getElem_cons_zero]
      go_simp
      (have HX0 := HS4.out; refine (HI3.out _).mono ?_; rintro e u5 ⟨m0, m1, m2, rfl, om, hb5⟩; obtain ⟨mb, mA, mn, mc, mD, mm, mk, rfl, rfl, rfl⟩ := om.cut; have qm := om.in_ (intQ_fit _) (Nat.le_refl _); have HS5 := hide (below_then HX0 hb5); clear HX0 om)
      go_wp2_with fail
      refine hK.out _ _ (HKS.out _ HS5.out) (fun hHeld => ?_)
      clear hK K
      refine wpAnyH_ready (rs := [19]) (by kernel_rfl) (by simp) ?_
      refine AllReadyH.cons rfl (fun K hK => ?_) AllReadyH.nil
      simp only [List.getElem_toArray, List.getElem_cons_succ, List.getElem_cons_zero]
      go_simp
      (have HX0 := HS5.out; refine (HSp.out _ _ _ _ _ _ _ (HQa.out _ HX0) qm).mono ?_; rintro e u6 ⟨rfl, hb6⟩; have HS6 := hide (below_then HX0 hb6); clear HX0)
      go_wp2_with fail
      refine hK.out _ _ (HKS.out _ HS6.out) (fun hHeld => ?_)
      clear hK K
      refine takeTF (i := 20) (t := 85) (v := ?_) rfl (by kernel_rfl) (by kernel_rfl) (by kernel_rfl) (fun _ _ _ h => h) rfl (by rfl) ?_ hHeld ?_
      rotate_left 1
      · intro w hSw; (try dsimp only at hSw); go_simp; with_reducible rfl
      simp only [List.setIfInBounds_toArray, List.set_cons_zero, List.set_cons_succ]
      refine takeTF (i := 21) (t := 86) (v := ?_) rfl (by kernel_rfl) (by kernel_rfl) (by kernel_rfl) (fun _ _ _ h => h) rfl (by rfl) ?_ hHeld ?_
      rotate_left 1
      · intro w hSw; (try dsimp only at hSw); go_simp; with_reducible rfl
      simp only [List.setIfInBounds_toArray, List.set_cons_zero, List.set_cons_succ]
      refine takeTF (i := 22) (t := 87) (v := ?_) rfl (by kernel_rfl) (by kernel_rfl) (by kernel_rfl) (fun _ _ _ h => h) rfl (by rfl) ?_ hHeld ?_
      rotate_left 1
      · intro w hSw; (try dsimp only at hSw); go_simp; with_reducible rfl
      simp only [List.setIfInBounds_toArray, List.set_cons_zero, List.set_cons_succ]
      refine takeTF (i := 23) (t := 88) (v := ?_) rfl (by kernel_rfl) (by kernel_rfl) (by kernel_rfl) (fun _ _ _ h => h) rfl (by rfl) ?_ hHeld ?_
      rotate_left 1
      · intro w hSw; (try dsimp only at hSw); go_simp; with_reducible rfl
      simp only [List.setIfInBounds_toArray, List.set_cons_zero, List.set_cons_succ]
      refine takeTF (i := 24) (t := 89) (v := ?_) rfl (by kernel_rfl) (by kernel_rfl) (by kernel_rfl) (fun _ _ _ h => h) rfl (by rfl) ?_ hHeld ?_
      rotate_left 1
      · intro w hSw; (try dsimp only at hSw); go_simp; with_reducible rfl
      simp only [List.setIfInBounds_toArray, List.set_cons_zero, List.set_cons_succ]
      refine takeTF (i := 25) (t := 90) (v := ?_) rfl (by kernel_rfl) (by kernel_rfl) (by kernel_rfl) (fun _ _ _ h => h) rfl (by rfl) ?_ hHeld ?_
      rotate_left 1
      · intro w hSw; (try dsimp only at hSw); go_simp; with_reducible rfl
      simp only [List.setIfInBounds_toArray, List.set_cons_zero, List.set_cons_succ]
      refine takeTF (i := 26) (t := 91) (v := ?_) rfl (by kernel_rfl) (by kernel_rfl) (by kernel_rfl) (fun _ _ _ h => h) rfl (by rfl) ?_ hHeld ?_
      rotate_left 1
      · intro w hSw; (try dsimp only at hSw); go_simp; with_reducible rfl
      simp only [List.setIfInBounds_toArray, List.set_cons_zero, List.set_cons_succ]
      refine takeTF (i := 27) (t := 92) (v := ?_) rfl (by kernel_rfl) (by kernel_rfl) (by kernel_rfl) (fun _ _ _ h => h) rfl (by rfl) ?_ hHeld ?_
      rotate_left 1
      · intro w hSw; (try dsimp only at hSw); go_simp; with_reducible rfl
      simp only [List.setIfInBounds_toArray, List.set_cons_zero, List.set_cons_succ]
      refine takeTF (i := 28) (t := 93) (v := ?_) rfl (by kernel_rfl) (by kernel_rfl) (by kernel_rfl) (fun _ _ _ h => h) rfl (by rfl) ?_ hHeld ?_
      rotate_left 1
      · intro w hSw; (try dsimp only at hSw); go_simp; with_reducible rfl
      simp only [List.setIfInBounds_toArray, List.set_cons_zero, List.set_cons_succ]
      refine takeTF (i := 29) (t := 94) (v := ?_) rfl (by kernel_rfl) (by kernel_rfl) (by kernel_rfl) (fun _ _ _ h => h) rfl (by rfl) ?_ hHeld ?_
      rotate_left 1
      · intro w hSw; (try dsimp only at hSw); go_simp; with_reducible rfl
      simp only [List.setIfInBounds_toArray, List.set_cons_zero, List.set_cons_succ]
      refine takeTF (i := 30) (t := 95) (v := ?_) rfl (by kernel_rfl) (by kernel_rfl) (by kernel_rfl) (fun _ _ _ h => h) rfl (by rfl) ?_ hHeld ?_
      rotate_left 1
      · intro w hSw; (try dsimp only at hSw); go_simp; with_reducible rfl
      simp only [List.setIfInBounds_toArray, List.set_cons_zero, List.set_cons_succ]
      refine takeTF (i := 31) (t := 96) (v := ?_) rfl (by kernel_rfl) (by kernel_rfl) (by kernel_rfl) (fun _ _ _ h => h) rfl (by rfl) ?_ hHeld ?_
      rotate_left 1
      · intro w hSw; (try dsimp only at hSw); go_simp; with_reducible rfl
      simp only [List.setIfInBounds_toArray, List.set_cons_zero, List.set_cons_succ]
      refine takeTF (i := 32) (t := 97) (v := ?_) rfl (by kernel_rfl) (by kernel_rfl) (by kernel_rfl) (fun _ _ _ h => h) rfl (by rfl) ?_ hHeld ?_
      rotate_left 1
      · intro w hSw; (try dsimp only at hSw); go_simp; with_reducible rfl
      simp only [List.setIfInBounds_toArray, List.set_cons_zero, List.set_cons_succ]
      refine takeTF (i := 33) (t := 98) (v := ?_) rfl (by kernel_rfl) (by kernel_rfl) (by kernel_rfl) (fun _ _ _ h => h) rfl (by rfl) ?_ hHeld ?_
      rotate_left 1
      · intro w hSw; (try dsimp only at hSw); go_simp; with_reducible rfl
      simp only [List.setIfInBounds_toArray, List.set_cons_zero, List.set_cons_succ]
      refine takeTF (i := 34) (t := 99) (v := ?_) rfl (by kernel_rfl) (by kernel_rfl) (by kernel_rfl) (fun _ _ _ h => h) rfl (by rfl) ?_ hHeld ?_
      rotate_left 1
      · intro w hSw; (try dsimp only at hSw); go_simp; with_reducible rfl
      simp only [List.setIfInBounds_toArray, List.set_cons_zero, List.set_cons_succ]
      refine takeTF (i := 35) (t := 100) (v := ?_) rfl (by kernel_rfl) (by kernel_rfl) (by kernel_rfl) (fun _ _ _ h => h) rfl (by rfl) ?_ hHeld ?_
      rotate_left 1
      · intro w hSw; (try dsimp only at hSw); go_simp; with_reducible rfl
      simp only [List.setIfInBounds_toArray, List.set_cons_zero, List.set_cons_succ]
      refine takeTF (i := 36) (t := 101) (v := ?_) rfl (by kernel_rfl) (by kernel_rfl) (by kernel_rfl) (fun _ _ _ h => h) rfl (by rfl) ?_ hHeld ?_
      rotate_left 1
      · intro w hSw; (try dsimp only at hSw); go_simp; with_reducible rfl
      simp only [List.setIfInBounds_toArray, List.set_cons_zero, List.set_cons_succ]
      refine takeTF (i := 37) (t := 102) (v := ?_) rfl (by kernel_rfl) (by kernel_rfl) (by kernel_rfl) (fun _ _ _ h => h) rfl (by rfl) ?_ hHeld ?_
      rotate_left 1
      · intro w hSw; (try dsimp only at hSw); go_simp; with_reducible rfl
      simp only [List.setIfInBounds_toArray, List.set_cons_zero, List.set_cons_succ]
      refine wpAnyH_ready (rs := [38]) (by kernel_rfl) (by simp) ?_
      refine AllReadyH.cons rfl (fun K hK => ?_) AllReadyH.nil
      simp only [List.getElem_toArray, List.getElem_cons_succ, List.getElem_cons_zero]
      go_simp
      (have HX0 := HS6.out; refine (HEQ.out _ _ _ _ _ _ _ _ (HQz.out _ HX0) (HQa.out _ HX0)).mono ?_; rintro e u7 ⟨rfl, hb7⟩; have HS7 := hide (below_then HX0 hb7); clear HX0)
      go_wp2_with fail
      refine hK.out _ _ (HKS.out _ HS7.out) (fun hHeld => ?_)
      clear hK K
      refine takeTF (i := 39) (t := 104) (v := ?_) rfl (by kernel_rfl) (by kernel_rfl) (by kernel_rfl) (fun _ _ _ h => h) rfl (by rfl) ?_ hHeld ?_
      rotate_left 1
      · intro w hSw; (try dsimp only at hSw); go_simp; with_reducible rfl
      simp only [List.setIfInBounds_toArray, List.set_cons_zero, List.set_cons_succ]
      refine takeTF (i := 40) (t := 105) (v := ?_) rfl (by kernel_rfl) (by kernel_rfl) (by kernel_rfl) (fun _ _ _ h => h) rfl (by rfl) ?_ hHeld ?_
      rotate_left 1
      · intro w hSw; (try dsimp only at hSw); go_simp; with_reducible rfl
      simp only [List.setIfInBounds_toArray, List.set_cons_zero, List.set_cons_succ]
      refine takeTF (i := 41) (t := 2) (v := ?_) rfl (by kernel_rfl) (by kernel_rfl) (by kernel_rfl) (fun _ _ _ h => h) rfl (by rfl) ?_ hHeld ?_
      rotate_left 1
      · intro w hSw; (try dsimp only at hSw); go_simp; with_reducible rfl
      simp only [List.setIfInBounds_toArray, List.set_cons_zero, List.set_cons_succ]
      refine wpAnyH_done (by kernel_rfl) ?_ _
      have hb14 := HS7.out
      obtain ⟨w14, hw14⟩ : ∃ x, x = u7 := ⟨_, rfl⟩
      subst hw14
      clear HKS HS0 HS1 HS2 HS3 HS4 HS5 HS6 HS7 HBe HBa HBz
      clear ye0 ye1 ye2 ye3 ye4 ye5 ya0 ya1 ya2 yz0 yz1 yz2
      have hs14 := hb14.size
      have hT14 := below_then hT13 hb14
      have ke := ke.below hb14 ke.lt
      have ka := ka.below hb14 ka.lt
      have kz := kz.below hb14 kz.lt
      clear hT13
      clear hb14
      go_wp2_with fail
      go_ret
      exact ⟨by first | rfl | simp, hT14⟩
end Go.Proofs.Ytdcceppednngjab
