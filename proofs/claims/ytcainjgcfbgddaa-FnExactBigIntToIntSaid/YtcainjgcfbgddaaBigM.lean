/-
  Structs in blocks: what a block holds, kept; results that are structs.
-/
import Derived.Test.YtcainjgcfbgddaaNatM
import Derived.Lib.SmallJoins
namespace Go.Proofs.Ytcainjgcfbgddaa
open Go.RowKit
set_option linter.unusedVariables false

theorem heap_last {w : World} {o : Obj} {k : Nat} (hk : k = w.heap.size) : (w.alloc o).heap[k]? = some o := by
  subst hk; show (w.heap.push o)[w.heap.size]? = _; rw [Array.getElem?_push_size]
theorem heap_old {w : World} {o x : Obj} {k : Nat} (h : w.heap[k]? = some x) : (w.alloc o).heap[k]? = some x := by
  have hk : k < w.heap.size := (Array.getElem?_eq_some_iff.1 h).1
  show (w.heap.push o)[k]? = _
  rw [Array.getElem?_push]
  rw [if_neg (by omega)]; exact h
theorem alloc_size (w : World) (o : Obj) : (w.alloc o).heap.size = w.heap.size + 1 := by show (w.heap.push o).size = _; rw [Array.size_push]
/-- block g holds the values cs, and nothing besides -/
def Box (w : World) (g : Nat) (E : TypeId) (cs : Array Value) : Prop := w.heap[g]? = some (.cells cs E (0, 0))
section
variable {w w' : World} {g : Nat} {E : TypeId} {cs : Array Value} {B : Nat}
theorem Box.lt (h : Box w g E cs) : g < w.heap.size := (Array.getElem?_eq_some_iff.1 h).1
theorem Box.cell (h : Box w g E cs) (i : Nat) : w.cell? ⟨g, i, none⟩ = cs[i]? := Joins.cell_of_block h i
theorem Box.frozen (h : Box w g E cs) (i : Nat) : w.frozen? ⟨g, i, none⟩ = false := Joins.unfrozen_of_block h i
theorem Box.below (h : Box w g E cs) (hb : Below B w w') (hd : g < B) : Box w' g E cs := by show w'.heap[g]? = _; rw [hb.block g hd]; exact h
theorem Box.set (h : Box w g E cs) (i : Nat) (v : Value) : Box (w.setCell ⟨g, i, none⟩ v) g E (cs.setIfInBounds i v) := Joins.block_setCell h v
theorem Box.alloc (h : Box w g E cs) (o : Obj) : Box (w.alloc o) g E cs := heap_old h
end
theorem Box.last (w : World) (E : TypeId) (cs : Array Value) {k : Nat} (hk : k = w.heap.size) : Box (w.alloc (.cells cs E)) k E cs := heap_last hk
theorem Box.drew {w : World} {g : Nat} {E : TypeId} {cs : Array Value} (h : Box w g E cs) : Box w.drew g E cs := h
theorem Box.set2 {w : World} {g : Nat} {E : TypeId} {a b : Value} (h : Box w g E #[a, b]) (x y : Value) : Box ((w.setCell ⟨g, 0, none⟩ x).setCell ⟨g, 1, none⟩ y) g E #[x, y] := (h.set 0 x).set 1 y
theorem below_alloc {w W : World} (h : Below w.heap.size w W) (o : Obj) : Below w.heap.size w (W.alloc o) := h.alloc h.size o
theorem below_then {w W W' : World} (h : Below w.heap.size w W) (k : Below W.heap.size W W') : Below w.heap.size w W' := h.trans (k.mono h.size)
theorem below_new (w : World) (o : Obj) : Below w.heap.size w (w.alloc o) := below_alloc (Below.refl _ _) o
theorem Own.setv {w : World} {lo hi n : Nat} {E : TypeId} {v : Value} {xs : List Value} (h : Own w lo hi E v n xs) {g : Nat} (hg : g < lo ∨ hi ≤ g) (j : Nat) (u : Value) : Own (w.setCell ⟨g, j, none⟩ u) lo hi E v n xs :=
  h.aside ((Aside.refl w (lo := g) (hi := g + 1)).setCell (Nat.le_refl _) (Nat.lt_succ_self _) u) (by omega)
theorem Box.setv {w : World} {g : Nat} {E : TypeId} {cs : Array Value} (h : Box w g E cs) {g' : Nat} (hg : g ≠ g') (j : Nat) (u : Value) : Box (w.setCell ⟨g', j, none⟩ u) g E cs := by
  show (w.setCell ⟨g', j, none⟩ u).heap[g]? = _
  rw [((Aside.refl w (lo := g') (hi := g' + 1)).setCell (Nat.le_refl _) (Nat.lt_succ_self _) u).block g h.lt (by omega)]
  exact h
theorem setCell_size (w : World) (a : Addr) (u : Value) : (w.setCell a u).heap.size = w.heap.size := by unfold World.setCell; split <;> simp
/-- a result of two cells, stored into its variable: the block, the list, the rest -/
theorem ret_big {w W : World} {g lo hi n : Nat} {E F : TypeId} {a b x v : Value} {xs : List Value} (k : Box W g E #[a, b]) (o : Own W lo hi F v n xs) (hb : Below w.heap.size w W) (hg : w.heap.size ≤ g) (hlo : g < lo) (hhi : hi ≤ W.heap.size) :
    Box ((W.setCell ⟨g, 0, none⟩ x).setCell ⟨g, 1, none⟩ v) g E #[x, v] ∧ Own ((W.setCell ⟨g, 0, none⟩ x).setCell ⟨g, 1, none⟩ v) w.heap.size ((W.setCell ⟨g, 0, none⟩ x).setCell ⟨g, 1, none⟩ v).heap.size F v n xs ∧ Below w.heap.size w ((W.setCell ⟨g, 0, none⟩ x).setCell ⟨g, 1, none⟩ v) :=
  ⟨k.set2 x v, ((o.setv (.inl hlo) 0 x).setv (.inl hlo) 1 v).wider (by omega) (by rw [setCell_size, setCell_size]; exact hhi), (hb.setCell (p := ⟨g, 0, none⟩) hg x).setCell (p := ⟨g, 1, none⟩) hg v⟩
/-- the same where the list is the first cell -/
theorem ret_bigS {w W : World} {g lo hi n : Nat} {E F : TypeId} {a b x v : Value} {xs : List Value} (k : Box W g E #[a, b]) (o : Own W lo hi F v n xs) (hb : Below w.heap.size w W) (hg : w.heap.size ≤ g) (hlo : g < lo) (hhi : hi ≤ W.heap.size) :
    Box ((W.setCell ⟨g, 0, none⟩ v).setCell ⟨g, 1, none⟩ x) g E #[v, x] ∧ Own ((W.setCell ⟨g, 0, none⟩ v).setCell ⟨g, 1, none⟩ x) w.heap.size ((W.setCell ⟨g, 0, none⟩ v).setCell ⟨g, 1, none⟩ x).heap.size F v n xs ∧ Below w.heap.size w ((W.setCell ⟨g, 0, none⟩ v).setCell ⟨g, 1, none⟩ x) :=
  ⟨k.set2 v x, ((o.setv (.inl hlo) 0 v).setv (.inl hlo) 1 x).wider (by omega) (by rw [setCell_size, setCell_size]; exact hhi), (hb.setCell (p := ⟨g, 0, none⟩) hg v).setCell (p := ⟨g, 1, none⟩) hg x⟩
/-- the same where nothing is kept in memory of the call's own -/
theorem ret_big0 {w W : World} {g : Nat} {E : TypeId} {a b x v : Value} (k : Box W g E #[a, b]) (hb : Below w.heap.size w W) (hg : w.heap.size ≤ g) :
    Box ((W.setCell ⟨g, 0, none⟩ x).setCell ⟨g, 1, none⟩ v) g E #[x, v] ∧ Below w.heap.size w ((W.setCell ⟨g, 0, none⟩ x).setCell ⟨g, 1, none⟩ v) :=
  ⟨k.set2 x v, (hb.setCell (p := ⟨g, 0, none⟩) hg x).setCell (p := ⟨g, 1, none⟩) hg v⟩
theorem results_cell_tmp {P : Program} {fn : Func} {p u : Tmp} {ty : TypeId} (h : fn.results = #[.cell p ty, .tmp u]) (tmps : Array Value) (w : World) (g : Nat) (t : TypeId) (cs : Array Value) (fr : Nat × Nat) (d : TypeDesc)
    (hp : tmps.getD p undef = .pointer (some ⟨g, 0, none⟩)) (hg : w.heap[g]? = some (.cells cs t fr))
    (hu : P.underlying ty = some d) (hd : (match d with | .struct _ | .array _ _ => true | _ => false) = true) (hi : (P.info? ty).map (·.size) = some cs.size) :
    (results fn tmps).run P w = .ok (.tuple #[.agg cs, tmps.getD u undef]) w := by
  have hp' : tmps[p]?.getD undef = .pointer (some ⟨g, 0, none⟩) := by simpa using hp
  simp [results, h, hp', asAddr, run_loadVar_row w g t ty cs fr d hg hu hd hi]
theorem Box.facts {w : World} {g : Nat} {E : TypeId} {a b : Value} (h : Box w g E #[a, b]) : w.cell? ⟨g, 0, none⟩ = some a ∧ w.cell? ⟨g, 1, none⟩ = some b ∧ w.frozen? ⟨g, 0, none⟩ = false ∧ w.frozen? ⟨g, 1, none⟩ = false :=
  ⟨h.cell 0, h.cell 1, h.frozen 0, h.frozen 1⟩
theorem fl_end {w W : World} {g l1 h1 l2 h2 : Nat} {E F : TypeId} {a b v v2 : Value} {xs ys : List Int} (sg : Bool) (k : Box W g E #[a, b]) (o : Own W l1 h1 F v xs.length (iv xs)) (o2 : Own W l2 h2 F v2 ys.length (iv ys)) (hb : Below w.heap.size w W) (hg : w.heap.size ≤ g)
    (hl1 : g < l1) (hl2 : g < l2) (hh1 : h1 ≤ W.heap.size) (hh2 : h2 ≤ W.heap.size) (hd : h1 ≤ l2 ∨ h2 ≤ l1) :
    Box ((W.setCell ⟨g, 0, none⟩ (.bool (sg && !xs.isEmpty))).setCell ⟨g, 1, none⟩ v) g E #[.bool (sg && !xs.isEmpty), v] ∧ Two w ((W.setCell ⟨g, 0, none⟩ (.bool (sg && !xs.isEmpty))).setCell ⟨g, 1, none⟩ v) F v xs v2 ys ∧ Below w.heap.size w ((W.setCell ⟨g, 0, none⟩ (.bool (sg && !xs.isEmpty))).setCell ⟨g, 1, none⟩ v) :=
  ⟨k.set2 _ v, ⟨l1, h1, l2, h2, (o.setv (.inl hl1) 0 _).setv (.inl hl1) 1 v, (o2.setv (.inl hl2) 0 _).setv (.inl hl2) 1 v, by omega, by omega, by rw [setCell_size, setCell_size]; exact hh1, by rw [setCell_size, setCell_size]; exact hh2, hd⟩,
    (hb.setCell (p := ⟨g, 0, none⟩) hg _).setCell (p := ⟨g, 1, none⟩) hg v⟩
theorem Box.aside {w w' : World} {g : Nat} {E : TypeId} {cs : Array Value} {lo hi : Nat} (h : Box w g E cs) (ha : Aside lo hi w w') (hd : g < lo ∨ hi ≤ g) : Box w' g E cs := by
  show w'.heap[g]? = _
  rw [ha.block g h.lt hd]; exact h
theorem drew_size (w : World) : w.drew.heap.size = w.heap.size := rfl
theorem kz_new {W w1 : World} {E : TypeId} {cs : Array Value} (hb : Below (W.alloc (.cells cs E)).heap.size (W.alloc (.cells cs E)) w1) : Box w1 W.heap.size E cs := (Box.last W E cs rfl).below hb (by rw [alloc_size]; omega)
theorem kz_drew {W w1 : World} {E : TypeId} {cs : Array Value} (hb : Below (W.alloc (.cells cs E)).drew.heap.size (W.alloc (.cells cs E)).drew w1) : Box w1 W.heap.size E cs := (Box.last W E cs rfl).drew.below hb (by rw [drew_size, alloc_size]; omega)
theorem below_set2 {w W : World} {g : Nat} (hb : Below w.heap.size w W) (hg : w.heap.size ≤ g) (x y : Value) : Below w.heap.size w ((W.setCell ⟨g, 0, none⟩ x).setCell ⟨g, 1, none⟩ y) := (hb.setCell (p := ⟨g, 0, none⟩) hg _).setCell (p := ⟨g, 1, none⟩) hg _
/-- a struct variable of two cells that a drawn region has made: where it lies, what its list is -/
def VarOk (w wx : World) (sx : Value) (b : Bool) (L : List Int) (TB TI : TypeId) : Prop :=
  ∃ g A c lo hi, sx = .pointer (some ⟨g, 0, none⟩) ∧ Box wx g TB #[.bool b, .slice A L.length c] ∧ Own wx lo hi TI (.slice A L.length c) L.length (iv L) ∧ w.heap.size ≤ lo ∧ hi ≤ wx.heap.size ∧ w.heap.size ≤ g ∧ (g < lo ∨ hi ≤ g) ∧ Below w.heap.size w wx
theorem varok_last {w w3 : World} {b : Bool} {L : List Int} {TB TI : TypeId} {A : Option Addr} {c lo hi : Nat} (hb : Below w.heap.size w w3) (o : Own w3 lo hi TI (.slice A L.length c) L.length (iv L)) (hlo : w.heap.size ≤ lo) (hhi : hi ≤ w3.heap.size) :
    VarOk w (w3.alloc (.cells #[.bool b, .slice A L.length c] TB)) (.pointer (some ⟨w3.heap.size, 0, none⟩)) b L TB TI :=
  ⟨w3.heap.size, A, c, lo, hi, rfl, Box.last _ _ _ rfl, o.below (below_new w3 _) hhi, hlo, by rw [alloc_size]; omega, hb.size, .inr hhi, below_alloc hb _⟩
theorem varok_set {w w3 : World} {g : Nat} {x y : Value} {b : Bool} {L : List Int} {TB TI : TypeId} {A : Option Addr} {c lo hi : Nat} (k : Box w3 g TB #[x, y]) (hb : Below w.heap.size w w3) (o : Own w3 lo hi TI (.slice A L.length c) L.length (iv L)) (hlo : w.heap.size ≤ lo) (hhi : hi ≤ w3.heap.size) (hg : w.heap.size ≤ g) (hgl : g < lo) :
    VarOk w ((w3.setCell ⟨g, 0, none⟩ (.bool b)).setCell ⟨g, 1, none⟩ (.slice A L.length c)) (.pointer (some ⟨g, 0, none⟩)) b L TB TI :=
  ⟨g, A, c, lo, hi, rfl, k.set2 _ _, (o.setv (.inl hgl) 0 _).setv (.inl hgl) 1 _, hlo, by rw [setCell_size, setCell_size]; exact hhi, hg, .inl hgl, (hb.setCell (p := ⟨g, 0, none⟩) hg _).setCell (p := ⟨g, 1, none⟩) hg _⟩
theorem rd_alloc {w : World} {A : Option Addr} {xs : List Value} (h : Rd w w.heap.size A xs) (o : Obj) : Rd (w.alloc o) (w.alloc o).heap.size A xs := (h.alloc (Nat.le_refl _) o).wider (by rw [alloc_size]; omega)
theorem Try.sizeBig : (Try.prog.info? 27).map (·.size) = some 2 := by kernel_rfl
theorem Try.sizeSigned : (Try.prog.info? 52).map (·.size) = some 2 := by kernel_rfl
theorem Try.sizeBigL : (Try.prog.info? 24).map (·.size) = some 2 := by kernel_rfl
end Go.Proofs.Ytcainjgcfbgddaa
