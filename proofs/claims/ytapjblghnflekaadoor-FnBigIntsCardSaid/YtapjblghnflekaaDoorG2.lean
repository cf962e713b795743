/-
  The texts BigM, BigP, BigF, BigQ of this claim, put together; each has its own heading below. No condition of ours.
-/
import Derived.Test.YtapjblghnflekaaDoorG1
import Derived.Lib.SmallJoins
/-
  Structs in blocks: what a block holds, kept; results that are structs.
-/


namespace Go.Proofs.YtapjblghnflekaaDoor
open Go.RowKit
set_option linter.unusedVariables false

theorem heap_last {w : World} {o : Obj} {k : Nat} (hk : k = w.heap.size) : (w.alloc o).heap[k]? = some o := by
  subst hk; show (w.heap.push o)[w.heap.size]? = _; rw [Array.getElem?_push_size]
theorem heap_old {w : World} {o x : Obj} {k : Nat} (h : w.heap[k]? = some x) : (w.alloc o).heap[k]? = some x := by
  have hk : k < w.heap.size := (Array.getElem?_eq_some_iff.1 h).1
  show (w.heap.push o)[k]? = _
  rw [Array.getElem?_push]
  rw [if_neg (by omega)]; exact h
theorem alloc_size (w : World) (o : Obj) : (w.alloc o).heap.size = w.heap.size + 1 := by show (w.heap.push o).size = _; rw [Array.size_push]
/-- block g holds the values cs, and nothing besides -/
def Box (w : World) (g : Nat) (E : TypeId) (cs : Array Value) : Prop := w.heap[g]? = some (.cells cs E (0, 0))
section
variable {w w' : World} {g : Nat} {E : TypeId} {cs : Array Value} {B : Nat}
theorem Box.lt (h : Box w g E cs) : g < w.heap.size := (Array.getElem?_eq_some_iff.1 h).1
theorem Box.cell (h : Box w g E cs) (i : Nat) : w.cell? ⟨g, i, none⟩ = cs[i]? := Joins.cell_of_block h i
theorem Box.frozen (h : Box w g E cs) (i : Nat) : w.frozen? ⟨g, i, none⟩ = false := Joins.unfrozen_of_block h i
theorem Box.below (h : Box w g E cs) (hb : Below B w w') (hd : g < B) : Box w' g E cs := by show w'.heap[g]? = _; rw [hb.block g hd]; exact h
theorem Box.set (h : Box w g E cs) (i : Nat) (v : Value) : Box (w.setCell ⟨g, i, none⟩ v) g E (cs.setIfInBounds i v) := Joins.block_setCell h v
theorem Box.alloc (h : Box w g E cs) (o : Obj) : Box (w.alloc o) g E cs := heap_old h
end
theorem Box.last (w : World) (E : TypeId) (cs : Array Value) {k : Nat} (hk : k = w.heap.size) : Box (w.alloc (.cells cs E)) k E cs := heap_last hk
theorem Box.drew {w : World} {g : Nat} {E : TypeId} {cs : Array Value} (h : Box w g E cs) : Box w.drew g E cs := h
theorem Box.set2 {w : World} {g : Nat} {E : TypeId} {a b : Value} (h : Box w g E #[a, b]) (x y : Value) : Box ((w.setCell ⟨g, 0, none⟩ x).setCell ⟨g, 1, none⟩ y) g E #[x, y] := (h.set 0 x).set 1 y
theorem below_alloc {w W : World} (h : Below w.heap.size w W) (o : Obj) : Below w.heap.size w (W.alloc o) := h.alloc h.size o
theorem below_then {w W W' : World} (h : Below w.heap.size w W) (k : Below W.heap.size W W') : Below w.heap.size w W' := h.trans (k.mono h.size)
theorem below_new (w : World) (o : Obj) : Below w.heap.size w (w.alloc o) := below_alloc (Below.refl _ _) o
theorem Own.setv {w : World} {lo hi n : Nat} {E : TypeId} {v : Value} {xs : List Value} (h : Own w lo hi E v n xs) {g : Nat} (hg : g < lo ∨ hi ≤ g) (j : Nat) (u : Value) : Own (w.setCell ⟨g, j, none⟩ u) lo hi E v n xs :=
  h.aside ((Aside.refl w (lo := g) (hi := g + 1)).setCell (Nat.le_refl _) (Nat.lt_succ_self _) u) (by omega)
theorem Box.setv {w : World} {g : Nat} {E : TypeId} {cs : Array Value} (h : Box w g E cs) {g' : Nat} (hg : g ≠ g') (j : Nat) (u : Value) : Box (w.setCell ⟨g', j, none⟩ u) g E cs := by
  show (w.setCell ⟨g', j, none⟩ u).heap[g]? = _
  rw [((Aside.refl w (lo := g') (hi := g' + 1)).setCell (Nat.le_refl _) (Nat.lt_succ_self _) u).block g h.lt (by omega)]
  exact h
theorem setCell_size (w : World) (a : Addr) (u : Value) : (w.setCell a u).heap.size = w.heap.size := by unfold World.setCell; split <;> simp
/-- a result of two cells, stored into its variable: the block, the list, the rest -/
theorem ret_big {w W : World} {g lo hi n : Nat} {E F : TypeId} {a b x v : Value} {xs : List Value} (k : Box W g E #[a, b]) (o : Own W lo hi F v n xs) (hb : Below w.heap.size w W) (hg : w.heap.size ≤ g) (hlo : g < lo) (hhi : hi ≤ W.heap.size) :
    Box ((W.setCell ⟨g, 0, none⟩ x).setCell ⟨g, 1, none⟩ v) g E #[x, v] ∧ Own ((W.setCell ⟨g, 0, none⟩ x).setCell ⟨g, 1, none⟩ v) w.heap.size ((W.setCell ⟨g, 0, none⟩ x).setCell ⟨g, 1, none⟩ v).heap.size F v n xs ∧ Below w.heap.size w ((W.setCell ⟨g, 0, none⟩ x).setCell ⟨g, 1, none⟩ v) :=
  ⟨k.set2 x v, ((o.setv (.inl hlo) 0 x).setv (.inl hlo) 1 v).wider (by omega) (by rw [setCell_size, setCell_size]; exact hhi), (hb.setCell (p := ⟨g, 0, none⟩) hg x).setCell (p := ⟨g, 1, none⟩) hg v⟩
/-- the same where the list is the first cell -/
theorem ret_bigS {w W : World} {g lo hi n : Nat} {E F : TypeId} {a b x v : Value} {xs : List Value} (k : Box W g E #[a, b]) (o : Own W lo hi F v n xs) (hb : Below w.heap.size w W) (hg : w.heap.size ≤ g) (hlo : g < lo) (hhi : hi ≤ W.heap.size) :
    Box ((W.setCell ⟨g, 0, none⟩ v).setCell ⟨g, 1, none⟩ x) g E #[v, x] ∧ Own ((W.setCell ⟨g, 0, none⟩ v).setCell ⟨g, 1, none⟩ x) w.heap.size ((W.setCell ⟨g, 0, none⟩ v).setCell ⟨g, 1, none⟩ x).heap.size F v n xs ∧ Below w.heap.size w ((W.setCell ⟨g, 0, none⟩ v).setCell ⟨g, 1, none⟩ x) :=
  ⟨k.set2 v x, ((o.setv (.inl hlo) 0 v).setv (.inl hlo) 1 x).wider (by omega) (by rw [setCell_size, setCell_size]; exact hhi), (hb.setCell (p := ⟨g, 0, none⟩) hg v).setCell (p := ⟨g, 1, none⟩) hg x⟩
/-- the same where nothing is kept in memory of the call's own -/
theorem ret_big0 {w W : World} {g : Nat} {E : TypeId} {a b x v : Value} (k : Box W g E #[a, b]) (hb : Below w.heap.size w W) (hg : w.heap.size ≤ g) :
    Box ((W.setCell ⟨g, 0, none⟩ x).setCell ⟨g, 1, none⟩ v) g E #[x, v] ∧ Below w.heap.size w ((W.setCell ⟨g, 0, none⟩ x).setCell ⟨g, 1, none⟩ v) :=
  ⟨k.set2 x v, (hb.setCell (p := ⟨g, 0, none⟩) hg x).setCell (p := ⟨g, 1, none⟩) hg v⟩
theorem results_cell_tmp {P : Program} {fn : Func} {p u : Tmp} {ty : TypeId} (h : fn.results = #[.cell p ty, .tmp u]) (tmps : Array Value) (w : World) (g : Nat) (t : TypeId) (cs : Array Value) (fr : Nat × Nat) (d : TypeDesc)
    (hp : tmps.getD p undef = .pointer (some ⟨g, 0, none⟩)) (hg : w.heap[g]? = some (.cells cs t fr))
    (hu : P.underlying ty = some d) (hd : (match d with | .struct _ | .array _ _ => true | _ => false) = true) (hi : (P.info? ty).map (·.size) = some cs.size) :
    (results fn tmps).run P w = .ok (.tuple #[.agg cs, tmps.getD u undef]) w := by
  have hp' : tmps[p]?.getD undef = .pointer (some ⟨g, 0, none⟩) := by simpa using hp
  simp [results, h, hp', asAddr, run_loadVar_row w g t ty cs fr d hg hu hd hi]
theorem Box.facts {w : World} {g : Nat} {E : TypeId} {a b : Value} (h : Box w g E #[a, b]) : w.cell? ⟨g, 0, none⟩ = some a ∧ w.cell? ⟨g, 1, none⟩ = some b ∧ w.frozen? ⟨g, 0, none⟩ = false ∧ w.frozen? ⟨g, 1, none⟩ = false :=
  ⟨h.cell 0, h.cell 1, h.frozen 0, h.frozen 1⟩
theorem fl_end {w W : World} {g l1 h1 l2 h2 : Nat} {E F : TypeId} {a b v v2 : Value} {xs ys : List Int} (sg : Bool) (k : Box W g E #[a, b]) (o : Own W l1 h1 F v xs.length (iv xs)) (o2 : Own W l2 h2 F v2 ys.length (iv ys)) (hb : Below w.heap.size w W) (hg : w.heap.size ≤ g)
    (hl1 : g < l1) (hl2 : g < l2) (hh1 : h1 ≤ W.heap.size) (hh2 : h2 ≤ W.heap.size) (hd : h1 ≤ l2 ∨ h2 ≤ l1) :
    Box ((W.setCell ⟨g, 0, none⟩ (.bool (sg && !xs.isEmpty))).setCell ⟨g, 1, none⟩ v) g E #[.bool (sg && !xs.isEmpty), v] ∧ Two w ((W.setCell ⟨g, 0, none⟩ (.bool (sg && !xs.isEmpty))).setCell ⟨g, 1, none⟩ v) F v xs v2 ys ∧ Below w.heap.size w ((W.setCell ⟨g, 0, none⟩ (.bool (sg && !xs.isEmpty))).setCell ⟨g, 1, none⟩ v) :=
  ⟨k.set2 _ v, ⟨l1, h1, l2, h2, (o.setv (.inl hl1) 0 _).setv (.inl hl1) 1 v, (o2.setv (.inl hl2) 0 _).setv (.inl hl2) 1 v, by omega, by omega, by rw [setCell_size, setCell_size]; exact hh1, by rw [setCell_size, setCell_size]; exact hh2, hd⟩,
    (hb.setCell (p := ⟨g, 0, none⟩) hg _).setCell (p := ⟨g, 1, none⟩) hg v⟩
theorem Box.aside {w w' : World} {g : Nat} {E : TypeId} {cs : Array Value} {lo hi : Nat} (h : Box w g E cs) (ha : Aside lo hi w w') (hd : g < lo ∨ hi ≤ g) : Box w' g E cs := by
  show w'.heap[g]? = _
  rw [ha.block g h.lt hd]; exact h
theorem drew_size (w : World) : w.drew.heap.size = w.heap.size := rfl
theorem kz_new {W w1 : World} {E : TypeId} {cs : Array Value} (hb : Below (W.alloc (.cells cs E)).heap.size (W.alloc (.cells cs E)) w1) : Box w1 W.heap.size E cs := (Box.last W E cs rfl).below hb (by rw [alloc_size]; omega)
theorem kz_drew {W w1 : World} {E : TypeId} {cs : Array Value} (hb : Below (W.alloc (.cells cs E)).drew.heap.size (W.alloc (.cells cs E)).drew w1) : Box w1 W.heap.size E cs := (Box.last W E cs rfl).drew.below hb (by rw [drew_size, alloc_size]; omega)
theorem below_set2 {w W : World} {g : Nat} (hb : Below w.heap.size w W) (hg : w.heap.size ≤ g) (x y : Value) : Below w.heap.size w ((W.setCell ⟨g, 0, none⟩ x).setCell ⟨g, 1, none⟩ y) := (hb.setCell (p := ⟨g, 0, none⟩) hg _).setCell (p := ⟨g, 1, none⟩) hg _
/-- a struct variable of two cells that a drawn region has made: where it lies, what its list is -/
def VarOk (w wx : World) (sx : Value) (b : Bool) (L : List Int) (TB TI : TypeId) : Prop :=
  ∃ g A c lo hi, sx = .pointer (some ⟨g, 0, none⟩) ∧ Box wx g TB #[.bool b, .slice A L.length c] ∧ Own wx lo hi TI (.slice A L.length c) L.length (iv L) ∧ w.heap.size ≤ lo ∧ hi ≤ wx.heap.size ∧ w.heap.size ≤ g ∧ (g < lo ∨ hi ≤ g) ∧ Below w.heap.size w wx
theorem varok_last {w w3 : World} {b : Bool} {L : List Int} {TB TI : TypeId} {A : Option Addr} {c lo hi : Nat} (hb : Below w.heap.size w w3) (o : Own w3 lo hi TI (.slice A L.length c) L.length (iv L)) (hlo : w.heap.size ≤ lo) (hhi : hi ≤ w3.heap.size) :
    VarOk w (w3.alloc (.cells #[.bool b, .slice A L.length c] TB)) (.pointer (some ⟨w3.heap.size, 0, none⟩)) b L TB TI :=
  ⟨w3.heap.size, A, c, lo, hi, rfl, Box.last _ _ _ rfl, o.below (below_new w3 _) hhi, hlo, by rw [alloc_size]; omega, hb.size, .inr hhi, below_alloc hb _⟩
theorem varok_set {w w3 : World} {g : Nat} {x y : Value} {b : Bool} {L : List Int} {TB TI : TypeId} {A : Option Addr} {c lo hi : Nat} (k : Box w3 g TB #[x, y]) (hb : Below w.heap.size w w3) (o : Own w3 lo hi TI (.slice A L.length c) L.length (iv L)) (hlo : w.heap.size ≤ lo) (hhi : hi ≤ w3.heap.size) (hg : w.heap.size ≤ g) (hgl : g < lo) :
    VarOk w ((w3.setCell ⟨g, 0, none⟩ (.bool b)).setCell ⟨g, 1, none⟩ (.slice A L.length c)) (.pointer (some ⟨g, 0, none⟩)) b L TB TI :=
  ⟨g, A, c, lo, hi, rfl, k.set2 _ _, (o.setv (.inl hgl) 0 _).setv (.inl hgl) 1 _, hlo, by rw [setCell_size, setCell_size]; exact hhi, hg, .inl hgl, (hb.setCell (p := ⟨g, 0, none⟩) hg _).setCell (p := ⟨g, 1, none⟩) hg _⟩
theorem rd_alloc {w : World} {A : Option Addr} {xs : List Value} (h : Rd w w.heap.size A xs) (o : Obj) : Rd (w.alloc o) (w.alloc o).heap.size A xs := (h.alloc (Nat.le_refl _) o).wider (by rw [alloc_size]; omega)
theorem Tryd.sizeBig : (Tryd.prog.info? 25).map (·.size) = some 2 := by kernel_rfl
theorem Tryd.sizeSigned : (Tryd.prog.info? 43).map (·.size) = some 2 := by kernel_rfl
end Go.Proofs.YtapjblghnflekaaDoor

/-
  Big integers: the number of a sign and a magnitude, and what each function answers.
-/

namespace Go.Proofs.YtapjblghnflekaaDoor
open Go.RowKit
set_option linter.unusedVariables false

/-- the number of a sign and a magnitude -/
def zv (s : Bool) (xs : List Int) : Int := if s then -val xs else val xs
def bigB (s : Bool) (xs : List Int) : Bool := natB xs && !(s && xs.isEmpty)
/-- the big integer of a number, no number where it is too long -/
def capZ (z : Int) : Bool × List Int := (decide (z < 0) && !(capL z.natAbs).isEmpty, capL z.natAbs)
def noZ : Bool × List Int := (false, [])
def negZ (s : Bool) (xs : List Int) : Bool × List Int := if bigB s xs then capZ (-zv s xs) else noZ
def addZ (s : Bool) (xs : List Int) (t : Bool) (ys : List Int) : Bool × List Int := if bigB s xs && bigB t ys then capZ (zv s xs + zv t ys) else noZ
def subZ (s : Bool) (xs : List Int) (t : Bool) (ys : List Int) : Bool × List Int := if bigB s xs && bigB t ys then capZ (zv s xs - zv t ys) else noZ
def mulZ (s : Bool) (xs : List Int) (t : Bool) (ys : List Int) : Bool × List Int := if bigB s xs && bigB t ys then capZ (zv s xs * zv t ys) else noZ
def cmpZ (s : Bool) (xs : List Int) (t : Bool) (ys : List Int) : Int := if bigB s xs && bigB t ys then cmpV (zv s xs) (zv t ys) else 0
def intOkZ (s : Bool) (xs : List Int) : Bool := bigB s xs && natIntOk xs
def intZ (s : Bool) (xs : List Int) : Int := if intOkZ s xs then zv s xs else 0
def floorZ (s : Bool) (xs ys : List Int) : Bool × List Int := if bigB s xs && natB ys && !ys.isEmpty then capZ (zv s xs / val ys) else noZ
def restZ (s : Bool) (xs ys : List Int) : List Int := if bigB s xs && natB ys && !ys.isEmpty then limbs (zv s xs % val ys).toNat else []

theorem capL_60 (n : Nat) : (capL n).length ≤ 60 := by unfold capL; split <;> simp_all
theorem capZ_len (z : Int) : (capZ z).2.length ≤ 60 := capL_60 _
theorem noZ_len : noZ.2.length ≤ 60 := by simp [noZ]
theorem negZ_len (s : Bool) (xs : List Int) : (negZ s xs).2.length ≤ 1048576 := by
  unfold negZ; split
  · have := capZ_len (-zv s xs); omega
  · have := noZ_len; omega
theorem addZ_len (s : Bool) (xs : List Int) (t : Bool) (ys : List Int) : (addZ s xs t ys).2.length ≤ 1048576 := by
  unfold addZ; split
  · have := capZ_len (zv s xs + zv t ys); omega
  · have := noZ_len; omega
theorem subZ_len (s : Bool) (xs : List Int) (t : Bool) (ys : List Int) : (subZ s xs t ys).2.length ≤ 1048576 := by
  unfold subZ; split
  · have := capZ_len (zv s xs - zv t ys); omega
  · have := noZ_len; omega
theorem mulZ_len (s : Bool) (xs : List Int) (t : Bool) (ys : List Int) : (mulZ s xs t ys).2.length ≤ 1048576 := by
  unfold mulZ; split
  · have := capZ_len (zv s xs * zv t ys); omega
  · have := noZ_len; omega
theorem ofZ_len (z : Int) : (capZ z).2.length ≤ 1048576 := by have := capZ_len z; omega
theorem floorZ_len (s : Bool) (xs ys : List Int) : (floorZ s xs ys).2.length ≤ 1048576 := by
  unfold floorZ; split
  · have := capZ_len (zv s xs / val ys); omega
  · have := noZ_len; omega

theorem capL_zero : capL 0 = [] := by unfold capL; rw [limbs_zero]; simp
theorem capL_of {n : Nat} (h : n < 1000000000 ^ 60) : capL n = limbs n := by unfold capL; rw [if_pos (limbs_len.2 h)]
/-- a sign and a magnitude, made a big integer -/
theorem capZ_make (s : Bool) (k : Nat) : (s && !(capL k).isEmpty, capL k) = capZ (if s then -(k : Int) else k) := by
  cases s
  · have h : ¬ ((k : Int) < 0) := by omega
    simp [capZ, h]
  · by_cases h : k = 0
    · subst h; simp [capZ, capL_zero]
    · have h' : -(k : Int) < 0 := by omega
      have e : (-(k : Int)).natAbs = k := by omega
      show _ = (decide (-(k : Int) < 0) && !(capL (-(k : Int)).natAbs).isEmpty, capL (-(k : Int)).natAbs)
      rw [e, decide_eq_true h']
theorem capZ_make' (s : Bool) (k : Nat) (b : Bool) (l : List Int) (hl : l = capL k) (hb : b = (s && !l.isEmpty)) : (b, l) = capZ (if s then -(k : Int) else k) := by
  subst hl; subst hb; exact capZ_make s k

theorem bigB_nat {s : Bool} {xs : List Int} (h : bigB s xs = true) : natB xs = true := by unfold bigB at h; simp at h; exact h.1
theorem bigB_bad {s : Bool} {xs : List Int} (h : natB xs = false) : bigB s xs = false := by unfold bigB; rw [h]; rfl
theorem natV_nonneg {xs : List Int} (h : natB xs = true) : 0 ≤ val xs := by have := natV_val h; omega
theorem natB_lt {xs : List Int} (h : natB xs = true) : natV xs < 1000000000 ^ 60 := limbs_len.1 (by rw [limbs_natV h]; exact ((natB_iff xs).1 h).2)
theorem natB_zero {xs : List Int} (h : natB xs = true) : xs.isEmpty = decide (natV xs = 0) := by
  by_cases h0 : natV xs = 0
  · have := limbs_natV h
    rw [h0, limbs_zero] at this
    subst this; simp [natV, val]
  · have hne : xs ≠ [] := by intro e; subst e; exact h0 (by simp [natV, val])
    rw [decide_eq_false h0]
    cases xs with
    | nil => exact absurd rfl hne
    | cons a l => rfl
theorem zv_neg (s : Bool) (xs : List Int) : zv (!s) xs = -zv s xs := by cases s <;> simp [zv]
theorem zv_nat {s : Bool} {xs : List Int} (h : natB xs = true) : zv s xs = if s then -(natV xs : Int) else natV xs := by unfold zv; rw [natV_val h]
theorem big_capZ (s : Bool) {xs : List Int} (h : natB xs = true) : (s && !xs.isEmpty, xs) = capZ (zv s xs) := by
  have h2 : xs = capL (natV xs) := by rw [capL_of (natB_lt h), limbs_natV h]
  rw [zv_nat h, capZ_make' s (natV xs) _ xs h2 rfl]
theorem negZ_ok {s : Bool} {xs : List Int} (h : bigB s xs = true) : (!s && !xs.isEmpty, xs) = negZ s xs := by
  rw [negZ, h, if_pos rfl, ← zv_neg, big_capZ _ (bigB_nat h)]
theorem zv_norm (u : Bool) (ys : List Int) : zv (u && !ys.isEmpty) ys = zv u ys := by
  cases ys with
  | nil => cases u <;> simp [zv, val]
  | cons a l => simp
theorem isEmpty_len {xs : List Int} {n : Nat} (h : xs.length = n) : xs.isEmpty = ((n : Int) == 0) := by
  subst h; cases xs with
  | nil => rfl
  | cons a l => simp; omega
end Go.Proofs.YtapjblghnflekaaDoor

/-
  Big integers: floor division, said of numbers.
-/

namespace Go.Proofs.YtapjblghnflekaaDoor
open Go.RowKit
set_option linter.unusedVariables false

/-- what the two parts of a floor division are -/
theorem floor_pos {s : Bool} {xs ys : List Int} (hx : bigB s xs = true) (hy : natB ys = true) (h0 : ys.isEmpty = false) (hr : s = true → remL xs ys = []) :
    (s && !(quoL xs ys).isEmpty, quoL xs ys) = floorZ s xs ys ∧ remL xs ys = restZ s xs ys := by
  have hn := bigB_nat hx
  have hvx := natV_val hn
  have hvy := natV_val hy
  have hY : natV ys ≠ 0 := by intro e; have := natB_zero hy; rw [e, h0] at this; simp at this
  have e1 : quoL xs ys = capL (natV xs / natV ys) := by
    rw [quoL, hn, hy]
    show limbs _ = _
    rw [capL_of (Nat.lt_of_le_of_lt (Nat.div_le_self _ _) (natB_lt hn))]
  have e2 : remL xs ys = limbs (natV xs % natV ys) := by rw [remL, hn, hy, h0]; rfl
  rw [floorZ, restZ, hx, hy, h0, zv_nat hn, capZ_make' s (natV xs / natV ys) _ _ e1 rfl, e2, ← hvy]
  cases s
  · refine ⟨rfl, ?_⟩
    show limbs _ = limbs _
    congr 1
  · have hz : natV xs % natV ys = 0 := limbs_nil.1 (by rw [← e2]; exact hr rfl)
    have hd : (natV xs : Int) = natV ys * (natV xs / natV ys : Nat) := by
      have := Nat.div_add_mod (natV xs) (natV ys)
      rw [hz] at this
      have h := congrArg Int.ofNat this
      simp only [Nat.add_zero] at h
      show ((natV xs : Nat) : Int) = _
      rw [← Int.natCast_mul]
      exact h.symm
    have hq : -(natV xs : Int) / (natV ys : Int) = -((natV xs / natV ys : Nat) : Int) := by
      have h2 : -(natV xs : Int) = (natV ys : Int) * (-((natV xs / natV ys : Nat) : Int)) := by rw [Int.mul_neg, ← hd]
      rw [h2, Int.mul_ediv_cancel_left _ (by omega)]
    have hm : -(natV xs : Int) % (natV ys : Int) = 0 := by
      have h2 : -(natV xs : Int) = (natV ys : Int) * (-((natV xs / natV ys : Nat) : Int)) := by rw [Int.mul_neg, ← hd]
      rw [h2, Int.mul_emod_right]
    refine ⟨?_, ?_⟩
    · show capZ _ = capZ _
      exact congrArg capZ hq.symm
    · show limbs _ = limbs (Int.toNat (-(natV xs : Int) % (natV ys : Int)))
      rw [hm, hz]; rfl
theorem floor_neg {xs ys : List Int} (hx : bigB true xs = true) (hy : natB ys = true) (h0 : ys.isEmpty = false) (hr : remL xs ys ≠ []) :
    (true && !(addL (quoL xs ys) [1]).isEmpty, addL (quoL xs ys) [1]) = floorZ true xs ys ∧ subL ys (remL xs ys) = restZ true xs ys := by
  have hn := bigB_nat hx
  have hvx := natV_val hn
  have hvy := natV_val hy
  have hY : natV ys ≠ 0 := by intro e; have := natB_zero hy; rw [e, h0] at this; simp at this
  have e1 : quoL xs ys = limbs (natV xs / natV ys) := by rw [quoL, hn, hy]; rfl
  have e2 : remL xs ys = limbs (natV xs % natV ys) := by rw [remL, hn, hy, h0]; rfl
  have hz : natV xs % natV ys ≠ 0 := fun h => hr (by rw [e2]; exact limbs_nil.2 h)
  have hlt := Nat.mod_lt (natV xs) (show 0 < natV ys by omega)
  have b1 : natB (quoL xs ys) = true := by rw [e1]; exact natB_limbs (Nat.lt_of_le_of_lt (Nat.div_le_self _ _) (natB_lt hn))
  have b2 : natB (remL xs ys) = true := by rw [e2]; exact natB_limbs (Nat.lt_trans hlt (natB_lt hy))
  have v1 : natV (quoL xs ys) = natV xs / natV ys := by rw [e1, natV_limbs]
  have v2 : natV (remL xs ys) = natV xs % natV ys := by rw [e2, natV_limbs]
  have e3 : addL (quoL xs ys) [1] = capL (natV xs / natV ys + 1) := by
    rw [addL, b1, show natB [1] = true by decide]
    show capL _ = _
    rw [v1]; rfl
  have e4 : subL ys (remL xs ys) = limbs (natV ys - natV xs % natV ys) := by rw [subL, hy, b2, v2]; rfl
  have hdm : (natV ys : Int) * ((natV xs / natV ys : Nat) : Int) + ((natV xs % natV ys : Nat) : Int) = natV xs := by
    rw [← Int.natCast_mul, ← Int.natCast_add, Nat.div_add_mod]
  have hsum : -(natV xs : Int) = ((natV ys - natV xs % natV ys : Nat) : Int) + (natV ys : Int) * (-((natV xs / natV ys + 1 : Nat) : Int)) := by
    rw [Int.natCast_add, Int.neg_add, Int.mul_add, Int.mul_neg]
    have : ((natV ys - natV xs % natV ys : Nat) : Int) = natV ys - ((natV xs % natV ys : Nat) : Int) := by omega
    rw [this]; omega
  have hq : -(natV xs : Int) / (natV ys : Int) = -((natV xs / natV ys + 1 : Nat) : Int) := by
    rw [hsum, Int.add_mul_ediv_left _ _ (by omega), Int.ediv_eq_zero_of_lt (by omega) (by omega), Int.zero_add]
  have hm : -(natV xs : Int) % (natV ys : Int) = ((natV ys - natV xs % natV ys : Nat) : Int) := by
    rw [hsum, Int.add_mul_emod_self_left, Int.emod_eq_of_lt (by omega) (by omega)]
  rw [floorZ, restZ, hx, hy, h0, zv_nat hn, capZ_make' true (natV xs / natV ys + 1) _ _ e3 rfl, e4, ← hvy]
  refine ⟨?_, ?_⟩
  · show capZ _ = capZ _
    exact congrArg capZ hq.symm
  · show limbs _ = limbs (Int.toNat (-(natV xs : Int) % (natV ys : Int)))
    rw [hm]; congr 1
theorem floor_no {s : Bool} {xs ys : List Int} (h : bigB s xs = false ∨ natB ys = false ∨ ys.isEmpty = true) : floorZ s xs ys = noZ ∧ restZ s xs ys = [] := by
  have hf : ¬ ((bigB s xs && natB ys && !ys.isEmpty) = true) := by rcases h with h | h | h <;> simp [h]
  rw [floorZ, restZ, if_neg hf, if_neg hf]; exact ⟨rfl, rfl⟩
theorem quoL_limbs (a b : List Int) (h : natB a = true) : Limbs (quoL a b) := by rw [quoL]; split; exact limbs_ok _; exact Limbs.nil
theorem remL_limbs (a b : List Int) : Limbs (remL a b) := by rw [remL]; split; exact limbs_ok _; exact Limbs.nil
theorem quoL_60 {a b : List Int} (ha : natB a = true) (hb : natB b = true) : (quoL a b).length ≤ 60 := by
  rw [quoL, ha, hb]
  exact limbs_len.2 (Nat.lt_of_le_of_lt (Nat.div_le_self _ _) (natB_lt ha))
theorem remL_60 {a b : List Int} (ha : natB a = true) (hb : natB b = true) : (remL a b).length ≤ 60 := by
  rw [remL, ha, hb]
  cases h : b.isEmpty
  · have hY : natV b ≠ 0 := by intro e; have := natB_zero hb; rw [e, h] at this; simp at this
    exact limbs_len.2 (Nat.lt_trans (Nat.mod_lt _ (by omega)) (natB_lt hb))
  · simp
theorem restZ_len (s : Bool) (xs ys : List Int) : (restZ s xs ys).length ≤ 1048576 := by
  unfold restZ; split
  · rename_i h
    simp only [Bool.and_eq_true, Bool.not_eq_true'] at h
    obtain ⟨⟨hx, hy⟩, h0⟩ := h
    have hY : natV ys ≠ 0 := by intro e; have := natB_zero hy; rw [e, h0] at this; simp at this
    have hv := natV_val hy
    have : (limbs (zv s xs % val ys).toNat).length ≤ 60 := by
      refine limbs_len.2 (Nat.lt_trans (m := natV ys) ?_ (natB_lt hy))
      have h1 := Int.emod_lt_of_pos (zv s xs) (show 0 < val ys by omega)
      have h2 := Int.emod_nonneg (zv s xs) (show val ys ≠ 0 by omega)
      omega
    omega
  · simp
end Go.Proofs.YtapjblghnflekaaDoor

/-
  Big integers as text: what is parsed, said of bytes.
-/


namespace Go.Proofs.YtapjblghnflekaaDoor
open Go.RowKit
set_option linter.unusedVariables false

def minusB : ByteArray := ⟨#[45]⟩
def signB (s : ByteArray) : Bool := if h : 0 < s.size then s[0] == 45 else false
def restB (s : ByteArray) : ByteArray := if signB s then s.extract 1 s.size else s
def parseZB (s : ByteArray) : Bool := parseB (restB s) && !(signB s && (parseL (restB s)).isEmpty)
def parseZ (s : ByteArray) : Bool × List Int := if parseZB s then (signB s, parseL (restB s)) else noZ
theorem parseZ_len (s : ByteArray) : (parseZ s).2.length ≤ 1048576 := by
  unfold parseZ; split
  · exact parseL_len _
  · simp [noZ]
theorem signB_pos {s : ByteArray} (h : signB s = true) : 0 < s.size := by
  unfold signB at h; split at h
  · assumption
  · cases h
theorem restB_size (s : ByteArray) : (restB s).size ≤ s.size := by
  unfold restB; split
  · rw [ByteArray.size_extract]; omega
  · exact Nat.le_refl _
theorem cut_minus {s : ByteArray} (h : 0 < s.size) : ((s.extract 0 1).toList == minusB.toList) = signB s := by
  rw [signB, dif_pos h]
  have hs : (s.extract 0 1).size = 1 := by rw [ByteArray.size_extract]; omega
  have h0 : (s.extract 0 1)[0]'(by omega) = s[0] := by rw [ByteArray.getElem_extract]
  by_cases he : s[0] = 45
  · have : s.extract 0 1 = minusB := by
      apply ByteArray.ext_getElem
      · rw [hs]; rfl
      · intro i h1 h2
        obtain rfl : i = 0 := by omega
        rw [h0, he]; rfl
    rw [str_eq this, he]; rfl
  · have hne : s.extract 0 1 ≠ minusB := fun e => by
      apply he
      rw [← h0]
      have : ∀ (t : ByteArray) (ht : t = minusB) (h : 0 < t.size), t[0] = 45 := fun t ht h => by subst ht; rfl
      exact this _ e _
    have e1 : (s[0] == 45) = false := by simpa using he
    rw [e1]
    exact str_ne hne
theorem parts_limbs {s : ByteArray} (hd : ∀ i (h : i < s.size), digB s[i] = true) (e : Nat) : Limbs (parts s e) := by
  induction e using Nat.strongRecOn with
  | _ e ih =>
    by_cases h : e = 0
    · subst h; rw [parts_zero]; exact Limbs.nil
    · rw [parts_pos s (by omega)]
      exact Limbs.mk (numL_9 hd _ _ (by omega)) (ih _ (by omega))
theorem natB_parse {s : ByteArray} (h : parseB s = true) : natB (parseL s) = true := by
  have h2 := h
  unfold parseB at h2
  simp only [Bool.and_eq_true, decide_eq_true_eq] at h2
  obtain ⟨h0, hd⟩ := digs_all h2.1.1
  rw [parseL, h]
  obtain ⟨k, hk, he, _⟩ := trim_prefix (parts s s.size)
  have hl := parts_len s s.size 60 (by omega)
  refine (natB_iff _).2 ⟨trim_canon (parts_limbs hd _), ?_⟩
  show (trim (parts s s.size)).length ≤ 60
  rw [he, List.length_take]; omega
theorem parseZ_big {s : ByteArray} (h : parseB (restB s) = true) : bigB (signB s) (parseL (restB s)) = parseZB s := by
  rw [bigB, parseZB, natB_parse h, h]
end Go.Proofs.YtapjblghnflekaaDoor
