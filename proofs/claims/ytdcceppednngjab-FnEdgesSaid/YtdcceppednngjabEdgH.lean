/-
  The program's height of an edge: contract: HeightAt of a valid edge at a valid number.
-/
import Derived.Test.YtdcceppednngjabEdgQ
import Derived.Test.YtdcceppednngjabEdgC
import Derived.Deep.RegionHeld3
import Derived.Deep.CutRange
import Derived.Sort.AtCall
namespace Go.Proofs.Ytdcceppednngjab
open Go.RowKit
set_option linter.unusedVariables false
/-- two cells that are a big integer, readable below B; of one's own -/
def ZIn (w : World) (B : Nat) (v0 v1 : Value) (Z : Bool × List Int) : Prop := v0 = .bool Z.1 ∧ ∃ A n c, v1 = .slice A n c ∧ RdI w B A n Z.2
def ZOwn (w : World) (lo hi : Nat) (E : TypeId) (v0 v1 : Value) (Z : Bool × List Int) : Prop := v0 = .bool Z.1 ∧ Own w lo hi E v1 Z.2.length (iv Z.2)
def NIn (w : World) (B : Nat) (v : Value) (xs : List Int) : Prop := ∃ A n c, v = .slice A n c ∧ RdI w B A n xs
def NOwn (w : World) (lo hi : Nat) (E : TypeId) (v : Value) (xs : List Int) : Prop := Own w lo hi E v xs.length (iv xs)
def ZFit (Z : Bool × List Int) : Prop := Z.2.length ≤ 1048576 ∧ Limbs Z.2
def NFit (xs : List Int) : Prop := xs.length ≤ 1048576 ∧ Limbs xs
def ZRes (TI : TypeId) (w w' : World) (e : Ending) (Z : Bool × List Int) : Prop := ∃ v0 v1, e = .returned (.agg #[v0, v1]) ∧ ZOwn w' w.heap.size w'.heap.size TI v0 v1 Z ∧ Below w.heap.size w w'
def NRes (TI : TypeId) (w w' : World) (e : Ending) (xs : List Int) : Prop := ∃ v, e = .returned v ∧ NOwn w' w.heap.size w'.heap.size TI v xs ∧ Below w.heap.size w w'
section
variable {w w' : World} {B B' lo hi g : Nat} {E : TypeId} {v0 v1 : Value} {Z : Bool × List Int} {xs : List Int}
theorem ZIn.below (h : ZIn w B v0 v1 Z) (hb : Below B w w') : ZIn w' B v0 v1 Z := by obtain ⟨e, A, n, c, f, r⟩ := h; exact ⟨e, A, n, c, f, r.below hb⟩
theorem ZIn.wider (h : ZIn w B v0 v1 Z) (hB : B ≤ B') : ZIn w B' v0 v1 Z := by obtain ⟨e, A, n, c, f, r⟩ := h; exact ⟨e, A, n, c, f, r.1, r.2.1.wider hB, r.2.2⟩
theorem ZIn.up (h : ZIn w w.heap.size v0 v1 Z) (hb : Below w.heap.size w w') : ZIn w' w'.heap.size v0 v1 Z := (h.below hb).wider hb.size
theorem NIn.below (h : NIn w B v0 xs) (hb : Below B w w') : NIn w' B v0 xs := by obtain ⟨A, n, c, f, r⟩ := h; exact ⟨A, n, c, f, r.below hb⟩
theorem NIn.wider (h : NIn w B v0 xs) (hB : B ≤ B') : NIn w B' v0 xs := by obtain ⟨A, n, c, f, r⟩ := h; exact ⟨A, n, c, f, r.1, r.2.1.wider hB, r.2.2⟩
theorem NIn.up (h : NIn w w.heap.size v0 xs) (hb : Below w.heap.size w w') : NIn w' w'.heap.size v0 xs := (h.below hb).wider hb.size
theorem ZOwn.below (h : ZOwn w lo hi E v0 v1 Z) (hb : Below B w w') (hh : hi ≤ B) : ZOwn w' lo hi E v0 v1 Z := ⟨h.1, h.2.below hb hh⟩
theorem NOwn.below (h : NOwn w lo hi E v0 xs) (hb : Below B w w') (hh : hi ≤ B) : NOwn w' lo hi E v0 xs := Own.below h hb hh
theorem ZOwn.setv (h : ZOwn w lo hi E v0 v1 Z) (hg : g < lo ∨ hi ≤ g) (j : Nat) (u : Value) : ZOwn (w.setCell ⟨g, j, none⟩ u) lo hi E v0 v1 Z := ⟨h.1, Own.setv h.2 hg j u⟩
theorem ZOwn.in_ (h : ZOwn w lo hi E v0 v1 Z) (f : ZFit Z) (hh : hi ≤ B) : ZIn w B v0 v1 Z := by
  obtain ⟨e, o⟩ := h
  obtain ⟨A, c, rfl⟩ := o.form
  exact ⟨e, A, _, c, rfl, rfl, o.rdB hh, f.1, (RdI.of_own o f.1 f.2).2.2.2⟩
theorem NOwn.in_ (h : NOwn w lo hi E v0 xs) (f : NFit xs) (hh : hi ≤ B) : NIn w B v0 xs := by
  obtain ⟨A, c, rfl⟩ := Own.form h
  exact ⟨A, _, c, rfl, rfl, Own.rdB h hh, f.1, (RdI.of_own h f.1 f.2).2.2.2⟩
theorem ZOwn.cut (h : ZOwn w lo hi E v0 v1 Z) : ∃ b A n c, v0 = .bool b ∧ v1 = .slice A n c := by
  obtain ⟨e, o⟩ := h
  obtain ⟨A, c, rfl⟩ := o.form
  exact ⟨_, A, _, c, e, rfl⟩
theorem NOwn.cut (h : NOwn w lo hi E v0 xs) : ∃ A n c, v0 = .slice A n c := by
  obtain ⟨A, c, rfl⟩ := Own.form h
  exact ⟨A, _, c, rfl⟩
end
def set2H (w : World) (g : Nat) (a b : Value) : World := (w.setCell ⟨g, 0, none⟩ a).setCell ⟨g, 1, none⟩ b
theorem Box.set2H {w : World} {g : Nat} {E : TypeId} {a b a' b' : Value} (h : Box w g E #[a', b']) : Box (set2H w g a b) g E #[a, b] := by
  have k0 : Box (w.setCell ⟨g, 0, none⟩ a) g E #[a, b'] := h.set 0 _
  have k1 : Box ((w.setCell ⟨g, 0, none⟩ a).setCell ⟨g, 1, none⟩ b) g E #[a, b] := k0.set 1 _
  exact k1
theorem set2H_size {w : World} {g : Nat} {a b : Value} : (set2H w g a b).heap.size = w.heap.size := by unfold set2H; simp only [setCell_size]
theorem set2H_below {w W : World} {B g : Nat} (hb : Below B w W) (hg : B ≤ g) (a b : Value) : Below B w (set2H W g a b) := (hb.setCell (p := ⟨g, 0, none⟩) hg a).setCell (p := ⟨g, 1, none⟩) hg b
def VarZ (w wx : World) (sx : Value) (Z : Bool × List Int) (TB TI : TypeId) : Prop :=
  ∃ g v0 v1 lo hi, sx = .pointer (some ⟨g, 0, none⟩) ∧ Box wx g TB #[v0, v1] ∧ ZOwn wx lo hi TI v0 v1 Z ∧ w.heap.size ≤ lo ∧ hi ≤ wx.heap.size ∧ w.heap.size ≤ g ∧ Below w.heap.size w wx
theorem impl_bigOfZ (w : World) (n : Int) (hn : (Lit.int .i64 n).wf = true) :
    Calls Try.prog 19 #[.int .i64 n] w fun e w' => ZRes 3 w w' e (capZ n) :=
  (impl_BigIntOf w w.heap.size (Nat.le_refl _) n hn).mono fun e w' ⟨v, he, o, hb⟩ => ⟨_, v, he, ⟨rfl, o⟩, hb⟩
theorem impl_bigMulZ (w : World) (B : Nat) (hB : B ≤ w.heap.size) {v0 v1 : Value} {Z : Bool × List Int} (h : ZIn w B v0 v1 Z) {u0 u1 : Value} {Y : Bool × List Int} (h' : ZIn w B u0 u1 Y) :
    Calls Try.prog 18 #[.agg #[v0, v1], .agg #[u0, u1]] w fun e w' => ZRes 3 w w' e (mulZ Z.1 Z.2 Y.1 Y.2) := by
  obtain ⟨rfl, A, n, c, rfl, r⟩ := h
  obtain ⟨rfl, A', n', c', rfl, r'⟩ := h'
  exact (impl_BigIntMul w B hB _ A n c _ r _ A' n' c' _ r').mono fun e w' ⟨v, he, o, hb⟩ => ⟨_, v, he, ⟨rfl, o⟩, hb⟩
theorem impl_bigAddZ (w : World) (B : Nat) (hB : B ≤ w.heap.size) {v0 v1 : Value} {Z : Bool × List Int} (h : ZIn w B v0 v1 Z) {u0 u1 : Value} {Y : Bool × List Int} (h' : ZIn w B u0 u1 Y) :
    Calls Try.prog 21 #[.agg #[v0, v1], .agg #[u0, u1]] w fun e w' => ZRes 3 w w' e (addZ Z.1 Z.2 Y.1 Y.2) := by
  obtain ⟨rfl, A, n, c, rfl, r⟩ := h
  obtain ⟨rfl, A', n', c', rfl, r'⟩ := h'
  exact (impl_BigIntAdd w B hB _ A n c _ r _ A' n' c' _ r').mono fun e w' ⟨v, he, o, hb⟩ => ⟨_, v, he, ⟨rfl, o⟩, hb⟩
theorem impl_natOfN (w : World) (n : Int) (hn : (Lit.int .i64 n).wf = true) :
    Calls Try.prog 23 #[.int .i64 n] w fun e w' => NRes 3 w w' e (limbs n.toNat) :=
  impl_NatOf w w.heap.size (Nat.le_refl _) n hn
theorem impl_natMulN (w : World) (B : Nat) (hB : B ≤ w.heap.size) {v u : Value} {xs ys : List Int} (h : NIn w B v xs) (h' : NIn w B u ys) :
    Calls Try.prog 22 #[v, u] w fun e w' => NRes 3 w w' e (mulL xs ys) := by
  obtain ⟨A, n, c, rfl, r⟩ := h
  obtain ⟨A', n', c', rfl, r'⟩ := h'
  exact impl_NatMul w B hB A n c xs r A' n' c' ys r'
theorem impl_reducedZ (w : World) (B : Nat) (hB : B ≤ w.heap.size) {v0 v1 u : Value} {Z : Bool × List Int} {ds : List Int} (h : ZIn w B v0 v1 Z) (h' : NIn w B u ds) (k1 : bigB Z.1 Z.2 = true) (k2 : natB ds = true) (k3 : ds.isEmpty = false) :
    Calls Try.prog 20 #[.agg #[v0, v1], u] w fun e w' => QRes 3 w w' e (lowR (zv Z.1 Z.2) (natV ds)) := by
  obtain ⟨rfl, A, n, c, rfl, r⟩ := h
  obtain ⟨A', n', c', rfl, r'⟩ := h'
  exact (impl_reduced w B hB _ A n c _ r k1 A' n' c' _ r' k2 k3).mono fun e w' h => QRes.of h
theorem wf_i64E {z : Int} (h : z.natAbs ≤ 1000000000000) : (Lit.int .i64 z).wf = true := WalkArith.wf_i64 ⟨by omega, by omega⟩
set_option maxRecDepth 100000 in
set_option maxHeartbeats 12800000 in
theorem impl_HeightAt (w : World) (B : Nat) (hB : B ≤ w.heap.size) (ex ey eu ev ek : Int) (el : Bool) (hex : (Lit.int .i64 ex).wf = true) (hey : (Lit.int .i64 ey).wf = true) (heu : (Lit.int .i64 eu).wf = true) (hev : (Lit.int .i64 ev).wf = true) {p0 p1 p2 : Value} {pZ : RQ} (hp : QIn w B p0 p1 p2 pZ) (hE : edgeB ex ey eu ev = true) (hX : ratQ pZ = true) :
    Calls Try.prog 7 #[.agg #[.int .i64 ex, .int .i64 ey, .int .i64 eu, .int .i64 ev, .int .i64 ek, .bool el], .agg #[p0, p1, p2]] w fun e w' => QRes 3 w w' e (hgtI ex ey eu ev pZ) := by
  have he' := edge_iff.1 hE
  have ho' := hgt_off hE
  obtain ⟨g1, g2, g3, hz⟩ := hgt_ok hE hX
  have HV := hide (fun (W : World) => impl_IsValidEdge W ex ey eu ev ek el hex hey heu hev)
  rw [hE] at HV
  have HO1 := hide (fun (W : World) (hq : Below w.heap.size w W) => impl_ratQ W B (Nat.le_trans hB hq.size) (hp.below (hq.mono hB)))
  rw [hX] at HO1
  have HLn := hide (fun (W : World) => impl_line W ex ey eu ev ek el hex hey heu hev)
  have m1 := ab_mul (a := ey) (b := eu) (B := 1000) (C := 1000) (by omega) (by omega)
  have m2 := ab_mul (a := ex) (b := ev) (B := 1000) (C := 1000) (by omega) (by omega)
  rw [w64_in (z := ev - ey) (by omega), w64_in (z := eu - ex) (by omega), w64_in (z := ey * eu) (by omega), w64_in (z := ex * ev) (by omega), w64_in (z := ey * eu - ex * ev) (by omega)] at HLn
  obtain ⟨⟨s, xs⟩, ds⟩ := pZ
  obtain ⟨pA, pn, pc, pD, pm, pk, rfl, rfl, rfl, r1, r2, _, _⟩ := hp
  have HNum := hide (fun (W : World) (hq : Below w.heap.size w W) => (show ZIn W W.heap.size (.bool s) (.slice pA pn pc) (s, xs) from ⟨rfl, pA, pn, pc, rfl, ((r1.below (hq.mono hB)).1), ((r1.below (hq.mono hB)).2.1.wider (Nat.le_trans hB hq.size)), r1.2.2⟩))
  have HDen := hide (fun (W : World) (hq : Below w.heap.size w W) => (show ZIn W W.heap.size (.bool false) (.slice pD pm pk) (false, ds) from ⟨rfl, pD, pm, pk, rfl, ((r2.below (hq.mono hB)).1), ((r2.below (hq.mono hB)).2.1.wider (Nat.le_trans hB hq.size)), r2.2.2⟩))
  have HDn := hide (fun (W : World) (hq : Below w.heap.size w W) => (show NIn W W.heap.size (.slice pD pm pk) ds from ⟨pD, pm, pk, rfl, ((r2.below (hq.mono hB)).1), ((r2.below (hq.mono hB)).2.1.wider (Nat.le_trans hB hq.size)), r2.2.2⟩))
  obtain ⟨RS, hRS⟩ : ∃ z, z = ev - ey := ⟨_, rfl⟩
  obtain ⟨RN, hRN⟩ : ∃ z, z = eu - ex := ⟨_, rfl⟩
  obtain ⟨RO, hRO⟩ : ∃ z, z = ey * eu - ex * ev := ⟨_, rfl⟩
  rw [← hRS, ← hRN, ← hRO] at HLn
  obtain ⟨RA, hRA⟩ : ∃ z, z = mulZ (capZ RS).1 (capZ RS).2 s xs := ⟨_, rfl⟩
  obtain ⟨RC, hRC⟩ : ∃ z, z = mulZ (capZ RO).1 (capZ RO).2 false ds := ⟨_, rfl⟩
  obtain ⟨RD, hRD⟩ : ∃ z, z = mulL (limbs RN.toNat) ds := ⟨_, rfl⟩
  obtain ⟨RT, hRT⟩ : ∃ z, z = addZ RA.1 RA.2 RC.1 RC.2 := ⟨_, rfl⟩
  have eT : hgS ex ey eu ev ((s, xs), ds) = RT := by rw [hRT, hRA, hRC, hRS, hRO]; rfl
  have eD : hgD ex eu ((s, xs), ds) = RD := by rw [hRD, hRN]; rfl
  rw [eT] at g1 hz
  rw [eD] at g2 g3 hz
  rw [← hz]
  have HFr : Hid (ZFit RA) := by show _; rw [hRA]; exact ⟨mulZ_len _ _ _ _, mulZ_limbs _ _ _ _⟩
  have HFo : Hid (ZFit RC) := by show _; rw [hRC]; exact ⟨mulZ_len _ _ _ _, mulZ_limbs _ _ _ _⟩
  have HFT : Hid (ZFit RT) := by show _; rw [hRT]; exact ⟨addZ_len _ _ _ _, addZ_limbs _ _ _ _⟩
  have HFD : Hid (NFit RD) := by show _; rw [hRD]; exact ⟨mulL_len _ _, mulL_limbs _ _⟩
  have HB1 := hide (fun (W : World) => impl_bigOfZ W RS (wf_i64E (by omega)))
  have HB2 := hide (fun (W : World) => impl_bigOfZ W RO (wf_i64E (by omega)))
  have HB3 := hide (fun (W : World) => impl_natOfN W RN (wf_i64E (by omega)))
  have HF1 : Hid (ZFit (capZ RS)) := ⟨by have := capZ_len RS; omega, capZ_limbs _⟩
  have HF2 : Hid (ZFit (capZ RO)) := ⟨by have := capZ_len RO; omega, capZ_limbs _⟩
  have HF3 : Hid (NFit (limbs RN.toNat)) := ⟨by have := limbs_len.2 (show RN.toNat < 1000000000 ^ 60 from Nat.lt_of_le_of_lt (show RN.toNat ≤ 2000 by omega) (by decide +kernel)); omega, limbs_ok _⟩
  have HM1 := hide (fun (W : World) (u0 u1 v0 v1 : Value) (h1 : ZIn W W.heap.size u0 u1 (capZ RS)) (h2 : ZIn W W.heap.size v0 v1 (s, xs)) => impl_bigMulZ W W.heap.size (Nat.le_refl _) h1 h2)
  have eA : mulZ (capZ RS).1 (capZ RS).2 (s, xs).1 (s, xs).2 = RA := hRA.symm
  rw [eA] at HM1
  have HM2 := hide (fun (W : World) (u0 u1 v0 v1 : Value) (h1 : ZIn W W.heap.size u0 u1 (capZ RO)) (h2 : ZIn W W.heap.size v0 v1 (false, ds)) => impl_bigMulZ W W.heap.size (Nat.le_refl _) h1 h2)
  have eC : mulZ (capZ RO).1 (capZ RO).2 (false, ds).1 (false, ds).2 = RC := hRC.symm
  rw [eC] at HM2
  have HM3 := hide (fun (W : World) (u0 u1 v0 v1 : Value) (h1 : ZIn W W.heap.size u0 u1 RA) (h2 : ZIn W W.heap.size v0 v1 RC) => impl_bigAddZ W W.heap.size (Nat.le_refl _) h1 h2)
  rw [← hRT] at HM3
  have HM4 := hide (fun (W : World) (u v : Value) (h1 : NIn W W.heap.size u (limbs RN.toNat)) (h2 : NIn W W.heap.size v ds) => impl_natMulN W W.heap.size (Nat.le_refl _) h1 h2)
  rw [← hRD] at HM4
  have HM5 := hide (fun (W : World) (u0 u1 v : Value) (h1 : ZIn W W.heap.size u0 u1 RT) (h2 : NIn W W.heap.size v RD) => impl_reducedZ W W.heap.size (Nat.le_refl _) h1 h2 g1 g2 g3)
  have HFX : Hid (QFit (lowR (zv RT.1 RT.2) (natV RD))) := lowR_fit _ _
  generalize lowR (zv RT.1 RT.2) (natV RD) = RX at *
  have HFq := HFr
  have HFd := HFo
  clear hz eT eD eA eC hRA hRC hRD hRT hRS hRN hRO g1 g2 g3 r1 r2 m1 m2 he' ho' hE hX hex hey heu hev
  obtain ⟨W0, hW0⟩ : ∃ W0, W0 = (((w.alloc (.cells #[.int .i64 ex, .int .i64 ey, .int .i64 eu, .int .i64 ev, .int .i64 ek, .bool el] 26)).alloc (.cells #[.bool s, .slice pA pn pc, .slice pD pm pk] 32)).alloc (.cells #[.bool false, .slice none 0 0, .slice none 0 0] 32)) := ⟨_, rfl⟩
  have hT0 : Below w.heap.size w W0 := by rw [hW0]; exact below_alloc (below_alloc (below_new _ _) _) _
  have ke : Box W0 (w.heap.size) 26 #[.int .i64 ex, .int .i64 ey, .int .i64 eu, .int .i64 ev, .int .i64 ek, .bool el] := by rw [hW0]; exact ((Box.last _ _ _ rfl).alloc _).alloc _
  have kp : Box W0 (w.heap.size + 1) 32 #[.bool s, .slice pA pn pc, .slice pD pm pk] := by rw [hW0]; exact (Box.last _ _ _ (alloc_size _ _).symm).alloc _
  have kr : Box W0 (w.heap.size + 2) 32 #[.bool false, .slice none 0 0, .slice none 0 0] := by rw [hW0]; exact Box.last _ _ _ (by rw [alloc_size, alloc_size])
  have hs0 : W0.heap.size = w.heap.size + 3 := by rw [hW0, alloc_size, alloc_size, alloc_size]
  go_enter Try.func7, Try.ntmps7
  go_upto_region 1 with fail
  rw [← hW0]
  clear hW0
  obtain ⟨ye0, ye1, ye2, ye3, ye4, ye5⟩ := ke.cells6
  go_wp2_with fail
  refine (HV.out W0).mono ?_
  rintro e w1 ⟨rfl, hb1⟩
  clear ye0 ye1 ye2 ye3 ye4 ye5
  have hs1 := hb1.size
  have hT1 := below_then hT0 hb1
  have ke := ke.below hb1 ke.lt
  have kp := kp.below hb1 kp.lt
  have kr := kr.below hb1 kr.lt
  clear hT0
  clear hb1
  obtain ⟨yp0, yp1, yp2⟩ := kp.cells3
  go_wp2_with fail
  refine (HO1.out w1 hT1).mono ?_
  rintro e w2 ⟨rfl, hb2⟩
  clear yp0 yp1 yp2
  have hs2 := hb2.size
  have hT2 := below_then hT1 hb2
  have ke := ke.below hb2 ke.lt
  have kp := kp.below hb2 kp.lt
  have kr := kr.below hb2 kr.lt
  clear hT1
  clear hb2
  go_upto_region 3 with fail
  clear HO1 HV
  obtain ⟨ye0, ye1, ye2, ye3, ye4, ye5⟩ := ke.cells6
  go_wp2_with fail
  refine (HLn.out w2).mono ?_
  rintro e w3 ⟨rfl, hb3⟩
  clear ye0 ye1 ye2 ye3 ye4 ye5
  have hs3 := hb3.size
  have hT3 := below_then hT2 hb3
  have ke := ke.below hb3 ke.lt
  have kp := kp.below hb3 kp.lt
  have kr := kr.below hb3 kr.lt
  clear hT2
  clear hb3
  obtain ⟨w4, hw4⟩ : ∃ xw, xw = (w3.alloc (.cells #[.int .i64 RS, .int .i64 RN, .int .i64 RO] 46)) := ⟨_, rfl⟩
  have hb4 : Below w3.heap.size w3 w4 := by rw [hw4]; exact below_new _ _
  have hq4 : w4.heap.size = w3.heap.size + 1 := by rw [hw4, alloc_size]
  have kn : Box w4 (w3.heap.size) 46 #[.int .i64 RS, .int .i64 RN, .int .i64 RO] := by rw [hw4]; exact Box.last _ _ _ (by omega)
  have hs4 := hb4.size
  have hT4 := below_then hT3 hb4
  have ke := ke.below hb4 ke.lt
  have kp := kp.below hb4 kp.lt
  have kr := kr.below hb4 kr.lt
  clear hT3
  go_upto_region 4 with fail
  rw [← hw4]
  clear hw4 hb4
  clear HLn
  have HTn := hide hT4
  have HTT := hide hT4
  have Ehs0 := hide hs0
  clear hs0
  have Ehq4 := hide hq4
  clear hq4
  go_cut [6] from 19 to 24 (fun sx wx => VarZ w4 wx sx (RA) 30 3)
  case first =>
    have HBn := hide kn
    have HBp := hide kp
    have HS0 : Hid (Below w4.heap.size w4 w4.drew) := (Below.refl _ _).drew
    have HKS := hide (fun (W : World) (hq : Below w4.heap.size w4 W) => (⟨(HBn.out.below hq HBn.out.lt).cell 0, (HBn.out.below hq HBn.out.lt).cell 1, (HBn.out.below hq HBn.out.lt).cell 2, (HBp.out.below hq HBp.out.lt).cell 0, (HBp.out.below hq HBp.out.lt).cell 1, (HBp.out.below hq HBp.out.lt).cell 2⟩ : W.cell? ⟨w3.heap.size, 0, none⟩ = some (.int .i64 RS) ∧ W.cell? ⟨w3.heap.size, 1, none⟩ = some (.int .i64 RN) ∧ W.cell? ⟨w3.heap.size, 2, none⟩ = some (.int .i64 RO) ∧ W.cell? ⟨w.heap.size + 1, 0, none⟩ = some (.bool s) ∧ W.cell? ⟨w.heap.size + 1, 1, none⟩ = some (.slice pA pn pc) ∧ W.cell? ⟨w.heap.size + 1, 2, none⟩ = some (.slice pD pm pk)))
    obtain ⟨yn0, yn1, yn2⟩ := kn.cells3
    obtain ⟨yp0, yp1, yp2⟩ := kp.cells3
    refine wp_region_held_drew (S := (fun w' => w'.cell? ⟨w3.heap.size, 0, none⟩ = some (.int .i64 RS) ∧ w'.cell? ⟨w3.heap.size, 1, none⟩ = some (.int .i64 RN) ∧ w'.cell? ⟨w3.heap.size, 2, none⟩ = some (.int .i64 RO) ∧ w'.cell? ⟨w.heap.size + 1, 0, none⟩ = some (.bool s) ∧ w'.cell? ⟨w.heap.size + 1, 1, none⟩ = some (.slice pA pn pc) ∧ w'.cell? ⟨w.heap.size + 1, 2, none⟩ = some (.slice pD pm pk))) (by kernel_rfl) (HKS.out _ HS0.out) (fun hHeld => ?_)
    show wpAnyH _ _ _ _ _ 8 _ _ _
    refine takeTF (i := 0) (t := 19) (v := ?_) rfl (by kernel_rfl) (by kernel_rfl) (by kernel_rfl) (fun _ _ _ h => h) rfl (by rfl) ?_ hHeld ?_
    rotate_left 1
    · intro w hSw; (try dsimp only at hSw); go_simp; with_reducible rfl
    simp only [List.setIfInBounds_toArray, List.set_cons_zero, List.set_cons_succ]
    refine takeTF (i := 1) (t := 20) (v := ?_) rfl (by kernel_rfl) (by kernel_rfl) (by kernel_rfl) (fun _ _ _ h => h) rfl (by rfl) ?_ hHeld ?_
    rotate_left 1
    · intro w hSw; (try dsimp only at hSw); go_simp; with_reducible rfl
    simp only [List.setIfInBounds_toArray, List.set_cons_zero, List.set_cons_succ]
    refine takeTF (i := 3) (t := 22) (v := ?_) rfl (by kernel_rfl) (by kernel_rfl) (by kernel_rfl) (fun _ _ _ h => h) rfl (by rfl) ?_ hHeld ?_
    rotate_left 1
    · intro w hSw; (try dsimp only at hSw); go_simp; with_reducible rfl
    simp only [List.setIfInBounds_toArray, List.set_cons_zero, List.set_cons_succ]
    refine takeTF (i := 4) (t := 23) (v := ?_) rfl (by kernel_rfl) (by kernel_rfl) (by kernel_rfl) (fun _ _ _ h => h) rfl (by rfl) ?_ hHeld ?_
    rotate_left 1
    · intro w hSw; (try dsimp only at hSw); go_simp; with_reducible rfl
    simp only [List.setIfInBounds_toArray, List.set_cons_zero, List.set_cons_succ]
    clear yn0 yn1 yn2 yp0 yp1 yp2
    refine wpAnyH_ready (rs := [2, 6]) (by kernel_rfl) (by simp) ?_
    refine (AllReadyH.cons rfl (fun K hK => ?_) (AllReadyH.cons rfl (fun K hK => ?_) AllReadyH.nil))
    · simp only [List.getElem_toArray, List.getElem_cons_succ, List.getElem_cons_zero]
      go_simp
      (with_reducible refine Calls.mono (HB1.out _) ?_)
      rintro e V1 ⟨g0, g1, rfl, og, bV1⟩
      obtain ⟨gb, gA, gn, gc, rfl, rfl⟩ := og.cut
      have og : ZOwn V1 w4.heap.size V1.heap.size 3 (.bool gb) (.slice gA gn gc) (capZ RS) := og
      have qg := og.in_ (HF1.out) (Nat.le_refl _)
      have zV1 : w4.heap.size ≤ V1.heap.size := bV1.size
      have HV1x := hide (below_then HS0.out bV1)
      go_wp2_with fail
      refine hK.out _ _ (HKS.out _ HV1x.out) (fun hHeld => ?_)
      clear hK K bV1
      refine wpAnyH_ready (rs := [5, 6]) (by kernel_rfl) (by simp) ?_
      refine (AllReadyH.cons rfl (fun K hK => ?_) (AllReadyH.cons rfl (fun K hK => ?_) AllReadyH.nil))
      · simp only [List.getElem_toArray, List.getElem_cons_succ, List.getElem_cons_zero]
        go_simp
        (with_reducible refine Calls.mono (HM1.out V1 _ _ _ _ qg (HNum.out _ (below_then HTT.out HV1x.out))) ?_)
        rintro e V2 ⟨z0, z1, rfl, oz, bV2⟩
        obtain ⟨zb, zA, zn, zc, rfl, rfl⟩ := oz.cut
        have oz : ZOwn V2 V1.heap.size V2.heap.size 3 (.bool zb) (.slice zA zn zc) (RA) := oz
        have qz := oz.in_ (HFr.out) (Nat.le_refl _)
        have zV2 : V1.heap.size ≤ V2.heap.size := bV2.size
        have HV2x := hide (below_then HV1x.out bV2)
        have qg := qg.up bV2
        have og := og.below bV2 (by omega)
        go_wp2_with fail
        refine hK.out _ _ (HKS.out _ HV2x.out) (fun hHeld => ?_)
        clear hK K bV2
        refine wpAnyH_ready (rs := [6]) (by kernel_rfl) (by simp) ?_
        refine (AllReadyH.cons rfl (fun K hK => ?_) AllReadyH.nil)
        simp only [List.getElem_toArray, List.getElem_cons_succ, List.getElem_cons_zero]
        go_wp2_with fail
        obtain ⟨V3, hV3⟩ : ∃ x, x = V2.alloc (.cells #[.bool false, .slice none 0 0] 30) := ⟨_, rfl⟩
        have bV3 : Below V2.heap.size V2 V3 := by rw [hV3]; exact below_new _ _
        have kV3 : Box V3 V2.heap.size 30 #[.bool false, .slice none 0 0] := by rw [hV3]; exact Box.last _ _ _ rfl
        have zV3 : V3.heap.size ≤ V2.heap.size + 1 ∧ V2.heap.size + 1 ≤ V3.heap.size := by rw [hV3, alloc_size]; exact ⟨Nat.le_refl _, Nat.le_refl _⟩
        have HV3x := hide (below_then HV2x.out bV3)
        have qg := qg.up bV3
        have og := og.below bV3 (by omega)
        have qz := qz.up bV3
        have oz := oz.below bV3 (by omega)
        have knewv := kV3
        rw [← hV3]
        refine hK.out _ _ (HKS.out _ HV3x.out) (fun hHeld => ?_)
        clear hK K hV3 bV3 kV3
        have lnewv := knewv.lt
        obtain ⟨t0, t1, f0, f1⟩ := knewv.facts
        refine wpAnyH_ready (rs := [7]) (by kernel_rfl) (by simp) ?_
        refine AllReadyH.cons rfl (fun K hK => ?_) AllReadyH.nil
        simp only [List.getElem_toArray, List.getElem_cons_succ, List.getElem_cons_zero]
        go_wp2_with fail
        clear t0 t1 f0 f1
        obtain ⟨V4, hV4⟩ : ∃ x, x = set2H V3 (V2.heap.size) (.bool zb) (.slice zA zn zc) := ⟨_, rfl⟩
        have zV4 : V4.heap.size ≤ V3.heap.size ∧ V3.heap.size ≤ V4.heap.size := by rw [hV4, set2H_size]; exact ⟨Nat.le_refl _, Nat.le_refl _⟩
        have HV4 : Hid (Below w4.heap.size w4 V4) := by rw [hV4]; exact set2H_below HV3x.out (by omega) _ _
        have knewv : Box V4 (V2.heap.size) 30 #[.bool zb, .slice zA zn zc] := by rw [hV4]; exact knewv.set2H
        have oz : ZOwn V4 (V1.heap.size) (V2.heap.size) 3 (.bool zb) (.slice zA zn zc) (RA) := by rw [hV4]; exact ((oz.setv (by omega) 0 _).setv (by omega) 1 _)
        have hV4' := hV4
        unfold set2H at hV4'
        rw [← hV4']
        refine hK.out _ _ (HKS.out _ HV4.out) (fun hHeld => ?_)
        clear hK K hV4 hV4'
        refine wpAnyH_done (by kernel_rfl) ?_ _
        go_wp2_with fail
        go_meet
        case rel => exact ⟨_, _, _, _, _, rfl, knewv, oz, by omega, by omega, by omega, HV4.out⟩
      · simp only [List.getElem_toArray, List.getElem_cons_succ, List.getElem_cons_zero]
        go_wp2_with fail
        obtain ⟨V5, hV5⟩ : ∃ x, x = V1.alloc (.cells #[.bool false, .slice none 0 0] 30) := ⟨_, rfl⟩
        have bV5 : Below V1.heap.size V1 V5 := by rw [hV5]; exact below_new _ _
        have kV5 : Box V5 V1.heap.size 30 #[.bool false, .slice none 0 0] := by rw [hV5]; exact Box.last _ _ _ rfl
        have zV5 : V5.heap.size ≤ V1.heap.size + 1 ∧ V1.heap.size + 1 ≤ V5.heap.size := by rw [hV5, alloc_size]; exact ⟨Nat.le_refl _, Nat.le_refl _⟩
        have HV5x := hide (below_then HV1x.out bV5)
        have qg := qg.up bV5
        have og := og.below bV5 (by omega)
        have knewv := kV5
        rw [← hV5]
        refine hK.out _ _ (HKS.out _ HV5x.out) (fun hHeld => ?_)
        clear hK K hV5 bV5 kV5
        refine wpAnyH_ready (rs := [5]) (by kernel_rfl) (by simp) ?_
        refine (AllReadyH.cons rfl (fun K hK => ?_) AllReadyH.nil)
        simp only [List.getElem_toArray, List.getElem_cons_succ, List.getElem_cons_zero]
        go_simp
        (with_reducible refine Calls.mono (HM1.out V5 _ _ _ _ qg (HNum.out _ (below_then HTT.out HV5x.out))) ?_)
        rintro e V6 ⟨z0, z1, rfl, oz, bV6⟩
        obtain ⟨zb, zA, zn, zc, rfl, rfl⟩ := oz.cut
        have oz : ZOwn V6 V5.heap.size V6.heap.size 3 (.bool zb) (.slice zA zn zc) (RA) := oz
        have qz := oz.in_ (HFr.out) (Nat.le_refl _)
        have zV6 : V5.heap.size ≤ V6.heap.size := bV6.size
        have HV6x := hide (below_then HV5x.out bV6)
        have knewv := knewv.below bV6 knewv.lt
        have qg := qg.up bV6
        have og := og.below bV6 (by omega)
        go_wp2_with fail
        refine hK.out _ _ (HKS.out _ HV6x.out) (fun hHeld => ?_)
        clear hK K bV6
        have lnewv := knewv.lt
        obtain ⟨t0, t1, f0, f1⟩ := knewv.facts
        refine wpAnyH_ready (rs := [7]) (by kernel_rfl) (by simp) ?_
        refine AllReadyH.cons rfl (fun K hK => ?_) AllReadyH.nil
        simp only [List.getElem_toArray, List.getElem_cons_succ, List.getElem_cons_zero]
        go_wp2_with fail
        clear t0 t1 f0 f1
        obtain ⟨V7, hV7⟩ : ∃ x, x = set2H V6 (V1.heap.size) (.bool zb) (.slice zA zn zc) := ⟨_, rfl⟩
        have zV7 : V7.heap.size ≤ V6.heap.size ∧ V6.heap.size ≤ V7.heap.size := by rw [hV7, set2H_size]; exact ⟨Nat.le_refl _, Nat.le_refl _⟩
        have HV7 : Hid (Below w4.heap.size w4 V7) := by rw [hV7]; exact set2H_below HV6x.out (by omega) _ _
        have knewv : Box V7 (V1.heap.size) 30 #[.bool zb, .slice zA zn zc] := by rw [hV7]; exact knewv.set2H
        have oz : ZOwn V7 (V5.heap.size) (V6.heap.size) 3 (.bool zb) (.slice zA zn zc) (RA) := by rw [hV7]; exact ((oz.setv (by omega) 0 _).setv (by omega) 1 _)
        have hV7' := hV7
        unfold set2H at hV7'
        rw [← hV7']
        refine hK.out _ _ (HKS.out _ HV7.out) (fun hHeld => ?_)
        clear hK K hV7 hV7'
        refine wpAnyH_done (by kernel_rfl) ?_ _
        go_wp2_with fail
        go_meet
        case rel => exact ⟨_, _, _, _, _, rfl, knewv, oz, by omega, by omega, by omega, HV7.out⟩
    · simp only [List.getElem_toArray, List.getElem_cons_succ, List.getElem_cons_zero]
      go_wp2_with fail
      obtain ⟨V8, hV8⟩ : ∃ x, x = (w4.alloc (.cells #[.bool false, .slice none 0 0] 30)).drew := ⟨_, rfl⟩
      have bV8 : Below w4.heap.size w4 V8 := by rw [hV8]; exact (below_new _ _).drew
      have kV8 : Box V8 w4.heap.size 30 #[.bool false, .slice none 0 0] := by rw [hV8]; exact (Box.last _ _ _ rfl).drew
      have zV8 : V8.heap.size ≤ w4.heap.size + 1 ∧ w4.heap.size + 1 ≤ V8.heap.size := by rw [hV8, drew_size, alloc_size]; exact ⟨Nat.le_refl _, Nat.le_refl _⟩
      have HV8x := hide bV8
      have knewv := kV8
      rw [← hV8]
      refine hK.out _ _ (HKS.out _ HV8x.out) (fun hHeld => ?_)
      clear hK K hV8 bV8 kV8
      refine wpAnyH_ready (rs := [2]) (by kernel_rfl) (by simp) ?_
      refine (AllReadyH.cons rfl (fun K hK => ?_) AllReadyH.nil)
      simp only [List.getElem_toArray, List.getElem_cons_succ, List.getElem_cons_zero]
      go_simp
      (with_reducible refine Calls.mono (HB1.out V8) ?_)
      rintro e V9 ⟨g0, g1, rfl, og, bV9⟩
      obtain ⟨gb, gA, gn, gc, rfl, rfl⟩ := og.cut
      have og : ZOwn V9 V8.heap.size V9.heap.size 3 (.bool gb) (.slice gA gn gc) (capZ RS) := og
      have qg := og.in_ (HF1.out) (Nat.le_refl _)
      have zV9 : V8.heap.size ≤ V9.heap.size := bV9.size
      have HV9x := hide (below_then HV8x.out bV9)
      have knewv := knewv.below bV9 knewv.lt
      go_wp2_with fail
      refine hK.out _ _ (HKS.out _ HV9x.out) (fun hHeld => ?_)
      clear hK K bV9
      refine wpAnyH_ready (rs := [5]) (by kernel_rfl) (by simp) ?_
      refine (AllReadyH.cons rfl (fun K hK => ?_) AllReadyH.nil)
      simp only [List.getElem_toArray, List.getElem_cons_succ, List.getElem_cons_zero]
      go_simp
      (with_reducible refine Calls.mono (HM1.out V9 _ _ _ _ qg (HNum.out _ (below_then HTT.out HV9x.out))) ?_)
      rintro e V10 ⟨z0, z1, rfl, oz, bV10⟩
      obtain ⟨zb, zA, zn, zc, rfl, rfl⟩ := oz.cut
      have oz : ZOwn V10 V9.heap.size V10.heap.size 3 (.bool zb) (.slice zA zn zc) (RA) := oz
      have qz := oz.in_ (HFr.out) (Nat.le_refl _)
      have zV10 : V9.heap.size ≤ V10.heap.size := bV10.size
      have HV10x := hide (below_then HV9x.out bV10)
      have knewv := knewv.below bV10 knewv.lt
      have qg := qg.up bV10
      have og := og.below bV10 (by omega)
      go_wp2_with fail
      refine hK.out _ _ (HKS.out _ HV10x.out) (fun hHeld => ?_)
      clear hK K bV10
      have lnewv := knewv.lt
      obtain ⟨t0, t1, f0, f1⟩ := knewv.facts
      refine wpAnyH_ready (rs := [7]) (by kernel_rfl) (by simp) ?_
      refine AllReadyH.cons rfl (fun K hK => ?_) AllReadyH.nil
      simp only [List.getElem_toArray, List.getElem_cons_succ, List.getElem_cons_zero]
      go_wp2_with fail
      clear t0 t1 f0 f1
      obtain ⟨V11, hV11⟩ : ∃ x, x = set2H V10 (w4.heap.size) (.bool zb) (.slice zA zn zc) := ⟨_, rfl⟩
      have zV11 : V11.heap.size ≤ V10.heap.size ∧ V10.heap.size ≤ V11.heap.size := by rw [hV11, set2H_size]; exact ⟨Nat.le_refl _, Nat.le_refl _⟩
      have HV11 : Hid (Below w4.heap.size w4 V11) := by rw [hV11]; exact set2H_below HV10x.out (by omega) _ _
      have knewv : Box V11 (w4.heap.size) 30 #[.bool zb, .slice zA zn zc] := by rw [hV11]; exact knewv.set2H
      have oz : ZOwn V11 (V9.heap.size) (V10.heap.size) 3 (.bool zb) (.slice zA zn zc) (RA) := by rw [hV11]; exact ((oz.setv (by omega) 0 _).setv (by omega) 1 _)
      have hV11' := hV11
      unfold set2H at hV11'
      rw [← hV11']
      refine hK.out _ _ (HKS.out _ HV11.out) (fun hHeld => ?_)
      clear hK K hV11 hV11'
      refine wpAnyH_done (by kernel_rfl) ?_ _
      go_wp2_with fail
      go_meet
      case rel => exact ⟨_, _, _, _, _, rfl, knewv, oz, by omega, by omega, by omega, HV11.out⟩
  case rest =>
    have hs0 := Ehs0.out
    clear Ehs0
    have hq4 := Ehq4.out
    clear Ehq4
    obtain ⟨gq, q0, q1, loq, hiq, rfl, bn, on, hloq, hhiq, hggq, hb5⟩ := hcut
    obtain ⟨qb, qA, qn, qc, rfl, rfl⟩ := on.cut
    obtain ⟨w5, hw5⟩ : ∃ xw, xw = wc := ⟨_, rfl⟩
    subst hw5
    have hs5 := hb5.size
    have hT5 := below_then hT4 hb5
    have ke := ke.below hb5 ke.lt
    have kp := kp.below hb5 kp.lt
    have kr := kr.below hb5 kr.lt
    have kn := kn.below hb5 kn.lt
    clear hT4
    clear hb5
    have kq := bn
    have lq := bn.lt
    have HZq := hide (fun (W : World) (h : Below w5.heap.size w5 W) => (((on.in_ HFq.out (by omega)).below h).wider h.size : ZIn W W.heap.size (.bool qb) (.slice qA qn qc) (RA)))
    clear bn on
    clear HTT
    go_upto_region 5 with fail
    have HTT := hide hT5
    have Ehs0 := hide hs0
    clear hs0
    have Ehq4 := hide hq4
    clear hq4
    go_cut [7] from 25 to 31 (fun sx wx => VarZ w5 wx sx (RC) 30 3)
    case first =>
      have HBn := hide kn
      have HBp := hide kp
      have HS0 : Hid (Below w5.heap.size w5 w5.drew) := (Below.refl _ _).drew
      have HKS := hide (fun (W : World) (hq : Below w5.heap.size w5 W) => (⟨(HBn.out.below hq HBn.out.lt).cell 0, (HBn.out.below hq HBn.out.lt).cell 1, (HBn.out.below hq HBn.out.lt).cell 2, (HBp.out.below hq HBp.out.lt).cell 0, (HBp.out.below hq HBp.out.lt).cell 1, (HBp.out.below hq HBp.out.lt).cell 2⟩ : W.cell? ⟨w3.heap.size, 0, none⟩ = some (.int .i64 RS) ∧ W.cell? ⟨w3.heap.size, 1, none⟩ = some (.int .i64 RN) ∧ W.cell? ⟨w3.heap.size, 2, none⟩ = some (.int .i64 RO) ∧ W.cell? ⟨w.heap.size + 1, 0, none⟩ = some (.bool s) ∧ W.cell? ⟨w.heap.size + 1, 1, none⟩ = some (.slice pA pn pc) ∧ W.cell? ⟨w.heap.size + 1, 2, none⟩ = some (.slice pD pm pk)))
      obtain ⟨yn0, yn1, yn2⟩ := kn.cells3
      obtain ⟨yp0, yp1, yp2⟩ := kp.cells3
      refine wp_region_held_drew (S := (fun w' => w'.cell? ⟨w3.heap.size, 0, none⟩ = some (.int .i64 RS) ∧ w'.cell? ⟨w3.heap.size, 1, none⟩ = some (.int .i64 RN) ∧ w'.cell? ⟨w3.heap.size, 2, none⟩ = some (.int .i64 RO) ∧ w'.cell? ⟨w.heap.size + 1, 0, none⟩ = some (.bool s) ∧ w'.cell? ⟨w.heap.size + 1, 1, none⟩ = some (.slice pA pn pc) ∧ w'.cell? ⟨w.heap.size + 1, 2, none⟩ = some (.slice pD pm pk))) (by kernel_rfl) (HKS.out _ HS0.out) (fun hHeld => ?_)
      show wpAnyH _ _ _ _ _ 9 _ _ _
      refine takeTF (i := 0) (t := 25) (v := ?_) rfl (by kernel_rfl) (by kernel_rfl) (by kernel_rfl) (fun _ _ _ h => h) rfl (by rfl) ?_ hHeld ?_
      rotate_left 1
      · intro w hSw; (try dsimp only at hSw); go_simp; with_reducible rfl
      simp only [List.setIfInBounds_toArray, List.set_cons_zero, List.set_cons_succ]
      refine takeTF (i := 1) (t := 26) (v := ?_) rfl (by kernel_rfl) (by kernel_rfl) (by kernel_rfl) (fun _ _ _ h => h) rfl (by rfl) ?_ hHeld ?_
      rotate_left 1
      · intro w hSw; (try dsimp only at hSw); go_simp; with_reducible rfl
      simp only [List.setIfInBounds_toArray, List.set_cons_zero, List.set_cons_succ]
      refine takeTF (i := 3) (t := 28) (v := ?_) rfl (by kernel_rfl) (by kernel_rfl) (by kernel_rfl) (fun _ _ _ h => h) rfl (by rfl) ?_ hHeld ?_
      rotate_left 1
      · intro w hSw; (try dsimp only at hSw); go_simp; with_reducible rfl
      simp only [List.setIfInBounds_toArray, List.set_cons_zero, List.set_cons_succ]
      refine takeTF (i := 4) (t := 29) (v := ?_) rfl (by kernel_rfl) (by kernel_rfl) (by kernel_rfl) (fun _ _ _ h => h) rfl (by rfl) ?_ hHeld ?_
      rotate_left 1
      · intro w hSw; (try dsimp only at hSw); go_simp; with_reducible rfl
      simp only [List.setIfInBounds_toArray, List.set_cons_zero, List.set_cons_succ]
      refine takeTF (i := 5) (t := 30) (v := ?_) rfl (by kernel_rfl) (by kernel_rfl) (by kernel_rfl) (fun _ _ _ h => h) rfl (by rfl) ?_ hHeld ?_
      rotate_left 1
      · intro w hSw; (try dsimp only at hSw); go_simp; with_reducible rfl
      simp only [List.setIfInBounds_toArray, List.set_cons_zero, List.set_cons_succ]
      clear yn0 yn1 yn2 yp0 yp1 yp2
      refine wpAnyH_ready (rs := [2, 7]) (by kernel_rfl) (by simp) ?_
      refine (AllReadyH.cons rfl (fun K hK => ?_) (AllReadyH.cons rfl (fun K hK => ?_) AllReadyH.nil))
      · simp only [List.getElem_toArray, List.getElem_cons_succ, List.getElem_cons_zero]
        go_simp
        (with_reducible refine Calls.mono (HB2.out _) ?_)
        rintro e V1 ⟨g0, g1, rfl, og, bV1⟩
        obtain ⟨gb, gA, gn, gc, rfl, rfl⟩ := og.cut
        have og : ZOwn V1 w5.heap.size V1.heap.size 3 (.bool gb) (.slice gA gn gc) (capZ RO) := og
        have qg := og.in_ (HF2.out) (Nat.le_refl _)
        have zV1 : w5.heap.size ≤ V1.heap.size := bV1.size
        have HV1x := hide (below_then HS0.out bV1)
        go_wp2_with fail
        refine hK.out _ _ (HKS.out _ HV1x.out) (fun hHeld => ?_)
        clear hK K bV1
        refine wpAnyH_ready (rs := [6, 7]) (by kernel_rfl) (by simp) ?_
        refine (AllReadyH.cons rfl (fun K hK => ?_) (AllReadyH.cons rfl (fun K hK => ?_) AllReadyH.nil))
        · simp only [List.getElem_toArray, List.getElem_cons_succ, List.getElem_cons_zero]
          go_simp
          (with_reducible refine Calls.mono (HM2.out V1 _ _ _ _ qg (HDen.out _ (below_then HTT.out HV1x.out))) ?_)
          rintro e V2 ⟨z0, z1, rfl, oz, bV2⟩
          obtain ⟨zb, zA, zn, zc, rfl, rfl⟩ := oz.cut
          have oz : ZOwn V2 V1.heap.size V2.heap.size 3 (.bool zb) (.slice zA zn zc) (RC) := oz
          have qz := oz.in_ (HFo.out) (Nat.le_refl _)
          have zV2 : V1.heap.size ≤ V2.heap.size := bV2.size
          have HV2x := hide (below_then HV1x.out bV2)
          have qg := qg.up bV2
          have og := og.below bV2 (by omega)
          go_wp2_with fail
          refine hK.out _ _ (HKS.out _ HV2x.out) (fun hHeld => ?_)
          clear hK K bV2
          refine wpAnyH_ready (rs := [7]) (by kernel_rfl) (by simp) ?_
          refine (AllReadyH.cons rfl (fun K hK => ?_) AllReadyH.nil)
          simp only [List.getElem_toArray, List.getElem_cons_succ, List.getElem_cons_zero]
          go_wp2_with fail
          obtain ⟨V3, hV3⟩ : ∃ x, x = V2.alloc (.cells #[.bool false, .slice none 0 0] 30) := ⟨_, rfl⟩
          have bV3 : Below V2.heap.size V2 V3 := by rw [hV3]; exact below_new _ _
          have kV3 : Box V3 V2.heap.size 30 #[.bool false, .slice none 0 0] := by rw [hV3]; exact Box.last _ _ _ rfl
          have zV3 : V3.heap.size ≤ V2.heap.size + 1 ∧ V2.heap.size + 1 ≤ V3.heap.size := by rw [hV3, alloc_size]; exact ⟨Nat.le_refl _, Nat.le_refl _⟩
          have HV3x := hide (below_then HV2x.out bV3)
          have qg := qg.up bV3
          have og := og.below bV3 (by omega)
          have qz := qz.up bV3
          have oz := oz.below bV3 (by omega)
          have knewv := kV3
          rw [← hV3]
          refine hK.out _ _ (HKS.out _ HV3x.out) (fun hHeld => ?_)
          clear hK K hV3 bV3 kV3
          have lnewv := knewv.lt
          obtain ⟨t0, t1, f0, f1⟩ := knewv.facts
          refine wpAnyH_ready (rs := [8]) (by kernel_rfl) (by simp) ?_
          refine AllReadyH.cons rfl (fun K hK => ?_) AllReadyH.nil
          simp only [List.getElem_toArray, List.getElem_cons_succ, List.getElem_cons_zero]
          go_wp2_with fail
          clear t0 t1 f0 f1
          obtain ⟨V4, hV4⟩ : ∃ x, x = set2H V3 (V2.heap.size) (.bool zb) (.slice zA zn zc) := ⟨_, rfl⟩
          have zV4 : V4.heap.size ≤ V3.heap.size ∧ V3.heap.size ≤ V4.heap.size := by rw [hV4, set2H_size]; exact ⟨Nat.le_refl _, Nat.le_refl _⟩
          have HV4 : Hid (Below w5.heap.size w5 V4) := by rw [hV4]; exact set2H_below HV3x.out (by omega) _ _
          have knewv : Box V4 (V2.heap.size) 30 #[.bool zb, .slice zA zn zc] := by rw [hV4]; exact knewv.set2H
          have oz : ZOwn V4 (V1.heap.size) (V2.heap.size) 3 (.bool zb) (.slice zA zn zc) (RC) := by rw [hV4]; exact ((oz.setv (by omega) 0 _).setv (by omega) 1 _)
          have hV4' := hV4
          unfold set2H at hV4'
          rw [← hV4']
          refine hK.out _ _ (HKS.out _ HV4.out) (fun hHeld => ?_)
          clear hK K hV4 hV4'
          refine wpAnyH_done (by kernel_rfl) ?_ _
          go_wp2_with fail
          go_meet
          case rel => exact ⟨_, _, _, _, _, rfl, knewv, oz, by omega, by omega, by omega, HV4.out⟩
        · simp only [List.getElem_toArray, List.getElem_cons_succ, List.getElem_cons_zero]
          go_wp2_with fail
          obtain ⟨V5, hV5⟩ : ∃ x, x = V1.alloc (.cells #[.bool false, .slice none 0 0] 30) := ⟨_, rfl⟩
          have bV5 : Below V1.heap.size V1 V5 := by rw [hV5]; exact below_new _ _
          have kV5 : Box V5 V1.heap.size 30 #[.bool false, .slice none 0 0] := by rw [hV5]; exact Box.last _ _ _ rfl
          have zV5 : V5.heap.size ≤ V1.heap.size + 1 ∧ V1.heap.size + 1 ≤ V5.heap.size := by rw [hV5, alloc_size]; exact ⟨Nat.le_refl _, Nat.le_refl _⟩
          have HV5x := hide (below_then HV1x.out bV5)
          have qg := qg.up bV5
          have og := og.below bV5 (by omega)
          have knewv := kV5
          rw [← hV5]
          refine hK.out _ _ (HKS.out _ HV5x.out) (fun hHeld => ?_)
          clear hK K hV5 bV5 kV5
          refine wpAnyH_ready (rs := [6]) (by kernel_rfl) (by simp) ?_
          refine (AllReadyH.cons rfl (fun K hK => ?_) AllReadyH.nil)
          simp only [List.getElem_toArray, List.getElem_cons_succ, List.getElem_cons_zero]
          go_simp
          (with_reducible refine Calls.mono (HM2.out V5 _ _ _ _ qg (HDen.out _ (below_then HTT.out HV5x.out))) ?_)
          rintro e V6 ⟨z0, z1, rfl, oz, bV6⟩
          obtain ⟨zb, zA, zn, zc, rfl, rfl⟩ := oz.cut
          have oz : ZOwn V6 V5.heap.size V6.heap.size 3 (.bool zb) (.slice zA zn zc) (RC) := oz
          have qz := oz.in_ (HFo.out) (Nat.le_refl _)
          have zV6 : V5.heap.size ≤ V6.heap.size := bV6.size
          have HV6x := hide (below_then HV5x.out bV6)
          have knewv := knewv.below bV6 knewv.lt
          have qg := qg.up bV6
          have og := og.below bV6 (by omega)
          go_wp2_with fail
          refine hK.out _ _ (HKS.out _ HV6x.out) (fun hHeld => ?_)
          clear hK K bV6
          have lnewv := knewv.lt
          obtain ⟨t0, t1, f0, f1⟩ := knewv.facts
          refine wpAnyH_ready (rs := [8]) (by kernel_rfl) (by simp) ?_
          refine AllReadyH.cons rfl (fun K hK => ?_) AllReadyH.nil
          simp only [List.getElem_toArray, List.getElem_cons_succ, List.getElem_cons_zero]
          go_wp2_with fail
          clear t0 t1 f0 f1
          obtain ⟨V7, hV7⟩ : ∃ x, x = set2H V6 (V1.heap.size) (.bool zb) (.slice zA zn zc) := ⟨_, rfl⟩
          have zV7 : V7.heap.size ≤ V6.heap.size ∧ V6.heap.size ≤ V7.heap.size := by rw [hV7, set2H_size]; exact ⟨Nat.le_refl _, Nat.le_refl _⟩
          have HV7 : Hid (Below w5.heap.size w5 V7) := by rw [hV7]; exact set2H_below HV6x.out (by omega) _ _
          have knewv : Box V7 (V1.heap.size) 30 #[.bool zb, .slice zA zn zc] := by rw [hV7]; exact knewv.set2H
          have oz : ZOwn V7 (V5.heap.size) (V6.heap.size) 3 (.bool zb) (.slice zA zn zc) (RC) := by rw [hV7]; exact ((oz.setv (by omega) 0 _).setv (by omega) 1 _)
          have hV7' := hV7
          unfold set2H at hV7'
          rw [← hV7']
          refine hK.out _ _ (HKS.out _ HV7.out) (fun hHeld => ?_)
          clear hK K hV7 hV7'
          refine wpAnyH_done (by kernel_rfl) ?_ _
          go_wp2_with fail
          go_meet
          case rel => exact ⟨_, _, _, _, _, rfl, knewv, oz, by omega, by omega, by omega, HV7.out⟩
      · simp only [List.getElem_toArray, List.getElem_cons_succ, List.getElem_cons_zero]
        go_wp2_with fail
        obtain ⟨V8, hV8⟩ : ∃ x, x = (w5.alloc (.cells #[.bool false, .slice none 0 0] 30)).drew := ⟨_, rfl⟩
        have bV8 : Below w5.heap.size w5 V8 := by rw [hV8]; exact (below_new _ _).drew
        have kV8 : Box V8 w5.heap.size 30 #[.bool false, .slice none 0 0] := by rw [hV8]; exact (Box.last _ _ _ rfl).drew
        have zV8 : V8.heap.size ≤ w5.heap.size + 1 ∧ w5.heap.size + 1 ≤ V8.heap.size := by rw [hV8, drew_size, alloc_size]; exact ⟨Nat.le_refl _, Nat.le_refl _⟩
        have HV8x := hide bV8
        have knewv := kV8
        rw [← hV8]
        refine hK.out _ _ (HKS.out _ HV8x.out) (fun hHeld => ?_)
        clear hK K hV8 bV8 kV8
        refine wpAnyH_ready (rs := [2]) (by kernel_rfl) (by simp) ?_
        refine (AllReadyH.cons rfl (fun K hK => ?_) AllReadyH.nil)
        simp only [List.getElem_toArray, List.getElem_cons_succ, List.getElem_cons_zero]
        go_simp
        (with_reducible refine Calls.mono (HB2.out V8) ?_)
        rintro e V9 ⟨g0, g1, rfl, og, bV9⟩
        obtain ⟨gb, gA, gn, gc, rfl, rfl⟩ := og.cut
        have og : ZOwn V9 V8.heap.size V9.heap.size 3 (.bool gb) (.slice gA gn gc) (capZ RO) := og
        have qg := og.in_ (HF2.out) (Nat.le_refl _)
        have zV9 : V8.heap.size ≤ V9.heap.size := bV9.size
        have HV9x := hide (below_then HV8x.out bV9)
        have knewv := knewv.below bV9 knewv.lt
        go_wp2_with fail
        refine hK.out _ _ (HKS.out _ HV9x.out) (fun hHeld => ?_)
        clear hK K bV9
        refine wpAnyH_ready (rs := [6]) (by kernel_rfl) (by simp) ?_
        refine (AllReadyH.cons rfl (fun K hK => ?_) AllReadyH.nil)
        simp only [List.getElem_toArray, List.getElem_cons_succ, List.getElem_cons_zero]
        go_simp
        (with_reducible refine Calls.mono (HM2.out V9 _ _ _ _ qg (HDen.out _ (below_then HTT.out HV9x.out))) ?_)
        rintro e V10 ⟨z0, z1, rfl, oz, bV10⟩
        obtain ⟨zb, zA, zn, zc, rfl, rfl⟩ := oz.cut
        have oz : ZOwn V10 V9.heap.size V10.heap.size 3 (.bool zb) (.slice zA zn zc) (RC) := oz
        have qz := oz.in_ (HFo.out) (Nat.le_refl _)
        have zV10 : V9.heap.size ≤ V10.heap.size := bV10.size
        have HV10x := hide (below_then HV9x.out bV10)
        have knewv := knewv.below bV10 knewv.lt
        have qg := qg.up bV10
        have og := og.below bV10 (by omega)
        go_wp2_with fail
        refine hK.out _ _ (HKS.out _ HV10x.out) (fun hHeld => ?_)
        clear hK K bV10
        have lnewv := knewv.lt
        obtain ⟨t0, t1, f0, f1⟩ := knewv.facts
        refine wpAnyH_ready (rs := [8]) (by kernel_rfl) (by simp) ?_
        refine AllReadyH.cons rfl (fun K hK => ?_) AllReadyH.nil
        simp only [List.getElem_toArray, List.getElem_cons_succ, List.getElem_cons_zero]
        go_wp2_with fail
        clear t0 t1 f0 f1
        obtain ⟨V11, hV11⟩ : ∃ x, x = set2H V10 (w5.heap.size) (.bool zb) (.slice zA zn zc) := ⟨_, rfl⟩
        have zV11 : V11.heap.size ≤ V10.heap.size ∧ V10.heap.size ≤ V11.heap.size := by rw [hV11, set2H_size]; exact ⟨Nat.le_refl _, Nat.le_refl _⟩
        have HV11 : Hid (Below w5.heap.size w5 V11) := by rw [hV11]; exact set2H_below HV10x.out (by omega) _ _
        have knewv : Box V11 (w5.heap.size) 30 #[.bool zb, .slice zA zn zc] := by rw [hV11]; exact knewv.set2H
        have oz : ZOwn V11 (V9.heap.size) (V10.heap.size) 3 (.bool zb) (.slice zA zn zc) (RC) := by rw [hV11]; exact ((oz.setv (by omega) 0 _).setv (by omega) 1 _)
        have hV11' := hV11
        unfold set2H at hV11'
        rw [← hV11']
        refine hK.out _ _ (HKS.out _ HV11.out) (fun hHeld => ?_)
        clear hK K hV11 hV11'
        refine wpAnyH_done (by kernel_rfl) ?_ _
        go_wp2_with fail
        go_meet
        case rel => exact ⟨_, _, _, _, _, rfl, knewv, oz, by omega, by omega, by omega, HV11.out⟩
    case rest =>
      have hs0 := Ehs0.out
      clear Ehs0
      have hq4 := Ehq4.out
      clear Ehq4
      obtain ⟨gd, d0, d1, lod, hid, rfl, bn, on, hlod, hhid, hggd, hb6⟩ := hcut
      obtain ⟨db, dA, dn, dc, rfl, rfl⟩ := on.cut
      obtain ⟨w6, hw6⟩ : ∃ xw, xw = wc := ⟨_, rfl⟩
      subst hw6
      have hs6 := hb6.size
      have hT6 := below_then hT5 hb6
      have ke := ke.below hb6 ke.lt
      have kp := kp.below hb6 kp.lt
      have kr := kr.below hb6 kr.lt
      have kn := kn.below hb6 kn.lt
      have kq := kq.below hb6 kq.lt
      clear hT5
      have HQ6 := hide hb6
      clear hb6
      have kd := bn
      have ld := bn.lt
      have HZd := hide (fun (W : World) (h : Below w6.heap.size w6 W) => (((on.in_ HFd.out (by omega)).below h).wider h.size : ZIn W W.heap.size (.bool db) (.slice dA dn dc) (RC)))
      clear bn on
      clear HTT
      go_upto_region 6 with fail
      have HTT := hide hT6
      have HBq := hide kq
      have HBd := hide kd
      have HBn := hide kn
      have HBp := hide kp
      have HBr := hide kr
      have HS0 : Hid (Below w6.heap.size w6 w6.drew) := (Below.refl _ _).drew
      have HKS := hide (fun (W : World) (hq : Below w6.heap.size w6 W) => (⟨(HBq.out.below hq HBq.out.lt).cell 0, (HBq.out.below hq HBq.out.lt).cell 1, (HBd.out.below hq HBd.out.lt).cell 0, (HBd.out.below hq HBd.out.lt).cell 1, (HBn.out.below hq HBn.out.lt).cell 0, (HBn.out.below hq HBn.out.lt).cell 1, (HBn.out.below hq HBn.out.lt).cell 2, (HBp.out.below hq HBp.out.lt).cell 0, (HBp.out.below hq HBp.out.lt).cell 1, (HBp.out.below hq HBp.out.lt).cell 2⟩ : W.cell? ⟨gq, 0, none⟩ = some (.bool qb) ∧ W.cell? ⟨gq, 1, none⟩ = some (.slice qA qn qc) ∧ W.cell? ⟨gd, 0, none⟩ = some (.bool db) ∧ W.cell? ⟨gd, 1, none⟩ = some (.slice dA dn dc) ∧ W.cell? ⟨w3.heap.size, 0, none⟩ = some (.int .i64 RS) ∧ W.cell? ⟨w3.heap.size, 1, none⟩ = some (.int .i64 RN) ∧ W.cell? ⟨w3.heap.size, 2, none⟩ = some (.int .i64 RO) ∧ W.cell? ⟨w.heap.size + 1, 0, none⟩ = some (.bool s) ∧ W.cell? ⟨w.heap.size + 1, 1, none⟩ = some (.slice pA pn pc) ∧ W.cell? ⟨w.heap.size + 1, 2, none⟩ = some (.slice pD pm pk)))
      have HKT := hide (fun (W : World) (hq : Below w6.heap.size w6 W) (x0 x1 x2 : Value) => (⟨((((HBq.out.below hq HBq.out.lt).setv (show gq ≠ w.heap.size + 2 by omega) 0 x0).setv (show gq ≠ w.heap.size + 2 by omega) 1 x1).setv (show gq ≠ w.heap.size + 2 by omega) 2 x2).cell 0, ((((HBq.out.below hq HBq.out.lt).setv (show gq ≠ w.heap.size + 2 by omega) 0 x0).setv (show gq ≠ w.heap.size + 2 by omega) 1 x1).setv (show gq ≠ w.heap.size + 2 by omega) 2 x2).cell 1, ((((HBd.out.below hq HBd.out.lt).setv (show gd ≠ w.heap.size + 2 by omega) 0 x0).setv (show gd ≠ w.heap.size + 2 by omega) 1 x1).setv (show gd ≠ w.heap.size + 2 by omega) 2 x2).cell 0, ((((HBd.out.below hq HBd.out.lt).setv (show gd ≠ w.heap.size + 2 by omega) 0 x0).setv (show gd ≠ w.heap.size + 2 by omega) 1 x1).setv (show gd ≠ w.heap.size + 2 by omega) 2 x2).cell 1, ((((HBn.out.below hq HBn.out.lt).setv (show w3.heap.size ≠ w.heap.size + 2 by omega) 0 x0).setv (show w3.heap.size ≠ w.heap.size + 2 by omega) 1 x1).setv (show w3.heap.size ≠ w.heap.size + 2 by omega) 2 x2).cell 0, ((((HBn.out.below hq HBn.out.lt).setv (show w3.heap.size ≠ w.heap.size + 2 by omega) 0 x0).setv (show w3.heap.size ≠ w.heap.size + 2 by omega) 1 x1).setv (show w3.heap.size ≠ w.heap.size + 2 by omega) 2 x2).cell 1, ((((HBn.out.below hq HBn.out.lt).setv (show w3.heap.size ≠ w.heap.size + 2 by omega) 0 x0).setv (show w3.heap.size ≠ w.heap.size + 2 by omega) 1 x1).setv (show w3.heap.size ≠ w.heap.size + 2 by omega) 2 x2).cell 2, ((((HBp.out.below hq HBp.out.lt).setv (show w.heap.size + 1 ≠ w.heap.size + 2 by omega) 0 x0).setv (show w.heap.size + 1 ≠ w.heap.size + 2 by omega) 1 x1).setv (show w.heap.size + 1 ≠ w.heap.size + 2 by omega) 2 x2).cell 0, ((((HBp.out.below hq HBp.out.lt).setv (show w.heap.size + 1 ≠ w.heap.size + 2 by omega) 0 x0).setv (show w.heap.size + 1 ≠ w.heap.size + 2 by omega) 1 x1).setv (show w.heap.size + 1 ≠ w.heap.size + 2 by omega) 2 x2).cell 1, ((((HBp.out.below hq HBp.out.lt).setv (show w.heap.size + 1 ≠ w.heap.size + 2 by omega) 0 x0).setv (show w.heap.size + 1 ≠ w.heap.size + 2 by omega) 1 x1).setv (show w.heap.size + 1 ≠ w.heap.size + 2 by omega) 2 x2).cell 2⟩ : (((W.setCell ⟨w.heap.size + 2, 0, none⟩ x0).setCell ⟨w.heap.size + 2, 1, none⟩ x1).setCell ⟨w.heap.size + 2, 2, none⟩ x2).cell? ⟨gq, 0, none⟩ = some (.bool qb) ∧ (((W.setCell ⟨w.heap.size + 2, 0, none⟩ x0).setCell ⟨w.heap.size + 2, 1, none⟩ x1).setCell ⟨w.heap.size + 2, 2, none⟩ x2).cell? ⟨gq, 1, none⟩ = some (.slice qA qn qc) ∧ (((W.setCell ⟨w.heap.size + 2, 0, none⟩ x0).setCell ⟨w.heap.size + 2, 1, none⟩ x1).setCell ⟨w.heap.size + 2, 2, none⟩ x2).cell? ⟨gd, 0, none⟩ = some (.bool db) ∧ (((W.setCell ⟨w.heap.size + 2, 0, none⟩ x0).setCell ⟨w.heap.size + 2, 1, none⟩ x1).setCell ⟨w.heap.size + 2, 2, none⟩ x2).cell? ⟨gd, 1, none⟩ = some (.slice dA dn dc) ∧ (((W.setCell ⟨w.heap.size + 2, 0, none⟩ x0).setCell ⟨w.heap.size + 2, 1, none⟩ x1).setCell ⟨w.heap.size + 2, 2, none⟩ x2).cell? ⟨w3.heap.size, 0, none⟩ = some (.int .i64 RS) ∧ (((W.setCell ⟨w.heap.size + 2, 0, none⟩ x0).setCell ⟨w.heap.size + 2, 1, none⟩ x1).setCell ⟨w.heap.size + 2, 2, none⟩ x2).cell? ⟨w3.heap.size, 1, none⟩ = some (.int .i64 RN) ∧ (((W.setCell ⟨w.heap.size + 2, 0, none⟩ x0).setCell ⟨w.heap.size + 2, 1, none⟩ x1).setCell ⟨w.heap.size + 2, 2, none⟩ x2).cell? ⟨w3.heap.size, 2, none⟩ = some (.int .i64 RO) ∧ (((W.setCell ⟨w.heap.size + 2, 0, none⟩ x0).setCell ⟨w.heap.size + 2, 1, none⟩ x1).setCell ⟨w.heap.size + 2, 2, none⟩ x2).cell? ⟨w.heap.size + 1, 0, none⟩ = some (.bool s) ∧ (((W.setCell ⟨w.heap.size + 2, 0, none⟩ x0).setCell ⟨w.heap.size + 2, 1, none⟩ x1).setCell ⟨w.heap.size + 2, 2, none⟩ x2).cell? ⟨w.heap.size + 1, 1, none⟩ = some (.slice pA pn pc) ∧ (((W.setCell ⟨w.heap.size + 2, 0, none⟩ x0).setCell ⟨w.heap.size + 2, 1, none⟩ x1).setCell ⟨w.heap.size + 2, 2, none⟩ x2).cell? ⟨w.heap.size + 1, 2, none⟩ = some (.slice pD pm pk)))
      obtain ⟨yq0, yq1⟩ := kq.cells2
      obtain ⟨yd0, yd1⟩ := kd.cells2
      obtain ⟨yn0, yn1, yn2⟩ := kn.cells3
      obtain ⟨yp0, yp1, yp2⟩ := kp.cells3
      refine wp_region_held_drew (S := (fun w' => w'.cell? ⟨gq, 0, none⟩ = some (.bool qb) ∧ w'.cell? ⟨gq, 1, none⟩ = some (.slice qA qn qc) ∧ w'.cell? ⟨gd, 0, none⟩ = some (.bool db) ∧ w'.cell? ⟨gd, 1, none⟩ = some (.slice dA dn dc) ∧ w'.cell? ⟨w3.heap.size, 0, none⟩ = some (.int .i64 RS) ∧ w'.cell? ⟨w3.heap.size, 1, none⟩ = some (.int .i64 RN) ∧ w'.cell? ⟨w3.heap.size, 2, none⟩ = some (.int .i64 RO) ∧ w'.cell? ⟨w.heap.size + 1, 0, none⟩ = some (.bool s) ∧ w'.cell? ⟨w.heap.size + 1, 1, none⟩ = some (.slice pA pn pc) ∧ w'.cell? ⟨w.heap.size + 1, 2, none⟩ = some (.slice pD pm pk))) (by kernel_rfl) (HKS.out _ HS0.out) (fun hHeld => ?_)
      show wpAnyH _ _ _ _ _ 11 _ _ _
      refine takeTF (i := 0) (t := 32) (v := ?_) rfl (by kernel_rfl) (by kernel_rfl) (by kernel_rfl) (fun _ _ _ h => h) rfl (by rfl) ?_ hHeld ?_
      rotate_left 1
      · intro w hSw; (try dsimp only at hSw); go_simp; with_reducible rfl
      simp only [List.setIfInBounds_toArray, List.set_cons_zero, List.set_cons_succ]
      refine takeTF (i := 1) (t := 33) (v := ?_) rfl (by kernel_rfl) (by kernel_rfl) (by kernel_rfl) (fun _ _ _ h => h) rfl (by rfl) ?_ hHeld ?_
      rotate_left 1
      · intro w hSw; (try dsimp only at hSw); go_simp; with_reducible rfl
      simp only [List.setIfInBounds_toArray, List.set_cons_zero, List.set_cons_succ]
      refine takeTF (i := 3) (t := 35) (v := ?_) rfl (by kernel_rfl) (by kernel_rfl) (by kernel_rfl) (fun _ _ _ h => h) rfl (by rfl) ?_ hHeld ?_
      rotate_left 1
      · intro w hSw; (try dsimp only at hSw); go_simp; with_reducible rfl
      simp only [List.setIfInBounds_toArray, List.set_cons_zero, List.set_cons_succ]
      refine takeTF (i := 4) (t := 36) (v := ?_) rfl (by kernel_rfl) (by kernel_rfl) (by kernel_rfl) (fun _ _ _ h => h) rfl (by rfl) ?_ hHeld ?_
      rotate_left 1
      · intro w hSw; (try dsimp only at hSw); go_simp; with_reducible rfl
      simp only [List.setIfInBounds_toArray, List.set_cons_zero, List.set_cons_succ]
      refine takeTF (i := 6) (t := 38) (v := ?_) rfl (by kernel_rfl) (by kernel_rfl) (by kernel_rfl) (fun _ _ _ h => h) rfl (by rfl) ?_ hHeld ?_
      rotate_left 1
      · intro w hSw; (try dsimp only at hSw); go_simp; with_reducible rfl
      simp only [List.setIfInBounds_toArray, List.set_cons_zero, List.set_cons_succ]
      refine takeTF (i := 7) (t := 39) (v := ?_) rfl (by kernel_rfl) (by kernel_rfl) (by kernel_rfl) (fun _ _ _ h => h) rfl (by rfl) ?_ hHeld ?_
      rotate_left 1
      · intro w hSw; (try dsimp only at hSw); go_simp; with_reducible rfl
      simp only [List.setIfInBounds_toArray, List.set_cons_zero, List.set_cons_succ]
      clear yq0 yq1 yd0 yd1 yn0 yn1 yn2 yp0 yp1 yp2
      refine wpAnyH_ready (rs := [2]) (by kernel_rfl) (by simp) ?_
      refine (AllReadyH.cons rfl (fun K hK => ?_) AllReadyH.nil)
      simp only [List.getElem_toArray, List.getElem_cons_succ, List.getElem_cons_zero]
      go_simp
      (with_reducible refine Calls.mono (HM3.out _ _ _ _ _ (HZq.out _ (below_then HQ6.out HS0.out)) (HZd.out _ HS0.out)) ?_)
      rintro e V1 ⟨g0, g1, rfl, og, bV1⟩
      obtain ⟨gb, gA, gn, gc, rfl, rfl⟩ := og.cut
      have og : ZOwn V1 w6.heap.size V1.heap.size 3 (.bool gb) (.slice gA gn gc) (RT) := og
      have qg := og.in_ (HFT.out) (Nat.le_refl _)
      have zV1 : w6.heap.size ≤ V1.heap.size := bV1.size
      have HV1x := hide (below_then HS0.out bV1)
      go_wp2_with fail
      refine hK.out _ _ (HKS.out _ HV1x.out) (fun hHeld => ?_)
      clear hK K bV1
      refine wpAnyH_ready (rs := [5]) (by kernel_rfl) (by simp) ?_
      refine (AllReadyH.cons rfl (fun K hK => ?_) AllReadyH.nil)
      simp only [List.getElem_toArray, List.getElem_cons_succ, List.getElem_cons_zero]
      go_simp
      (with_reducible refine Calls.mono (HB3.out V1) ?_)
      rintro e V2 ⟨j0, rfl, oj, bV2⟩
      obtain ⟨jA, jn, jc, rfl⟩ := oj.cut
      have oj : NOwn V2 V1.heap.size V2.heap.size 3 (.slice jA jn jc) (limbs RN.toNat) := oj
      have qj := oj.in_ (HF3.out) (Nat.le_refl _)
      have zV2 : V1.heap.size ≤ V2.heap.size := bV2.size
      have HV2x := hide (below_then HV1x.out bV2)
      have qg := qg.up bV2
      have og := og.below bV2 (by omega)
      go_wp2_with fail
      refine hK.out _ _ (HKS.out _ HV2x.out) (fun hHeld => ?_)
      clear hK K bV2
      refine wpAnyH_ready (rs := [8]) (by kernel_rfl) (by simp) ?_
      refine (AllReadyH.cons rfl (fun K hK => ?_) AllReadyH.nil)
      simp only [List.getElem_toArray, List.getElem_cons_succ, List.getElem_cons_zero]
      go_simp
      (with_reducible refine Calls.mono (HM4.out V2 _ _ qj (HDn.out _ (below_then HTT.out HV2x.out))) ?_)
      rintro e V3 ⟨m0, rfl, om, bV3⟩
      obtain ⟨mA, mn, mc, rfl⟩ := om.cut
      have om : NOwn V3 V2.heap.size V3.heap.size 3 (.slice mA mn mc) (RD) := om
      have qm := om.in_ (HFD.out) (Nat.le_refl _)
      have zV3 : V2.heap.size ≤ V3.heap.size := bV3.size
      have HV3x := hide (below_then HV2x.out bV3)
      have qg := qg.up bV3
      have og := og.below bV3 (by omega)
      have qj := qj.up bV3
      have oj := oj.below bV3 (by omega)
      go_wp2_with fail
      refine hK.out _ _ (HKS.out _ HV3x.out) (fun hHeld => ?_)
      clear hK K bV3
      refine wpAnyH_ready (rs := [9]) (by kernel_rfl) (by simp) ?_
      refine (AllReadyH.cons rfl (fun K hK => ?_) AllReadyH.nil)
      simp only [List.getElem_toArray, List.getElem_cons_succ, List.getElem_cons_zero]
      go_simp
      (with_reducible refine Calls.mono (HM5.out V3 _ _ _ qg qm) ?_)
      rintro e V4 ⟨z0, z1, z2, rfl, oz, bV4⟩
      obtain ⟨zb, zA, zn, zc, zD, zm, zk, rfl, rfl, rfl⟩ := oz.cut
      have oz : QOwn V4 V3.heap.size V4.heap.size 3 (.bool zb) (.slice zA zn zc) (.slice zD zm zk) (RX) := oz
      have qz := oz.in_ (HFX.out) (Nat.le_refl _)
      have zV4 : V3.heap.size ≤ V4.heap.size := bV4.size
      have HV4x := hide (below_then HV3x.out bV4)
      have qg := qg.up bV4
      have og := og.below bV4 (by omega)
      have qj := qj.up bV4
      have oj := oj.below bV4 (by omega)
      have qm := qm.up bV4
      have om := om.below bV4 (by omega)
      go_wp2_with fail
      refine hK.out _ _ (HKS.out _ HV4x.out) (fun hHeld => ?_)
      clear hK K bV4
      have krv := HBr.out.below HV4x.out HBr.out.lt
      have lrv := krv.lt
      obtain ⟨t0, t1, t2, f0, f1, f2⟩ := krv.facts3
      refine wpAnyH_ready (rs := [10]) (by kernel_rfl) (by simp) ?_
      refine AllReadyH.cons rfl (fun K hK => ?_) AllReadyH.nil
      simp only [List.getElem_toArray, List.getElem_cons_succ, List.getElem_cons_zero]
      go_wp2_with fail
      clear t0 t1 t2 f0 f1 f2
      refine hK.out _ _ (HKT.out _ HV4x.out _ _ _) (fun hHeld => ?_)
      clear hK K
      refine wpAnyH_done (by kernel_rfl) ?_ _
      have hTT := below_then hT6 HV4x.out
      have HO := hide (ret_q (HBr.out.below HV4x.out HBr.out.lt) oz hTT (by omega) (by omega) (Nat.le_refl _) (.inl (by omega)))
      go_wp2_with fail
      refine bodyPost_ret (results_cell_row rfl _ _ (w.heap.size + 2) _ #[.bool zb, .slice zA zn zc, .slice zD zm zk] (0, 0) _ rfl HO.out.1 Try.underlying32 rfl Try.sizeRat) rfl ?_
      exact ⟨_, _, _, rfl, HO.out.2.1, HO.out.2.2⟩
end Go.Proofs.Ytdcceppednngjab
