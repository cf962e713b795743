/-
  The texts PntM, PntL, PntL2, put together; each has its own heading below. No condition of ours.
-/
import Derived.Test.YtocllmaikngoaaaGreatDoorLB
import Derived.Test.YtocllmaikngoaaaGreatDoorSB
import Derived.Deep.RegionHeld3
import Derived.Test.YtocllmaikngoaaaGreatDoorMarkI
/-
  Lists of points in memory: rows of six cells, each point's lists in blocks of their own.
-/


namespace Go.Proofs.YtocllmaikngoaaaGreatDoor
open Go.RowKit
set_option linter.unusedVariables false
/-- a point as six cells: the heads of its four slices, what it is -/
structure Pr where
  a1 : Option Addr
  c1 : Nat
  a2 : Option Addr
  c2 : Nat
  a4 : Option Addr
  c4 : Nat
  a5 : Option Addr
  c5 : Nat
  p : PQ
def Pr.s1 (s : Pr) : Value := .slice s.a1 s.p.1.1.2.length s.c1
def Pr.s2 (s : Pr) : Value := .slice s.a2 s.p.1.2.length s.c2
def Pr.s4 (s : Pr) : Value := .slice s.a4 s.p.2.1.2.length s.c4
def Pr.s5 (s : Pr) : Value := .slice s.a5 s.p.2.2.length s.c5
def Pr.cells (s : Pr) : List Value := [.bool s.p.1.1.1, s.s1, s.s2, .bool s.p.2.1.1, s.s4, s.s5]
/-- its lists of integers -/
def Pr.sl (s : Pr) : List (Value × List Int) := [(s.s1, s.p.1.1.2), (s.s2, s.p.1.2), (s.s4, s.p.2.1.2), (s.s5, s.p.2.2)]
def prc (ps : List Pr) : List Value := ps.flatMap Pr.cells
def sls (ps : List Pr) : List (Value × List Int) := ps.flatMap Pr.sl
def pts (ps : List Pr) : List PQ := ps.map Pr.p
theorem prc_len : ∀ ps : List Pr, (prc ps).length = ps.length * 6
  | [] => rfl
  | s :: ps => by
    have e : prc (s :: ps) = s.cells ++ prc ps := by simp [prc]
    rw [e, List.length_append, prc_len ps, List.length_cons]
    show 6 + _ = _
    omega
theorem prc_append (a b : List Pr) : prc (a ++ b) = prc a ++ prc b := by simp [prc]
theorem sls_append (a b : List Pr) : sls (a ++ b) = sls a ++ sls b := by simp [sls]
theorem prc_one (s : Pr) : prc [s] = s.cells := by simp [prc]
theorem sls_one (s : Pr) : sls [s] = s.sl := by simp [sls]
theorem pts_len (ps : List Pr) : (pts ps).length = ps.length := by simp [pts]
theorem pts_append (a b : List Pr) : pts (a ++ b) = pts a ++ pts b := by simp [pts]
theorem prc_split {ps : List Pr} {i : Nat} (h : i < ps.length) : prc ps = prc (ps.take i) ++ (ps[i].cells ++ prc (ps.drop (i + 1))) := by
  have e : ps = ps.take i ++ (ps[i] :: ps.drop (i + 1)) := by
    rw [List.getElem_cons_drop]; exact (List.take_append_drop i ps).symm
  have e2 : prc (ps[i] :: ps.drop (i + 1)) = ps[i].cells ++ prc (ps.drop (i + 1)) := by unfold prc; rw [List.flatMap_cons]
  calc prc ps = prc (ps.take i ++ (ps[i] :: ps.drop (i + 1))) := congrArg prc e
    _ = _ := by rw [prc_append, e2]
theorem take_len {ps : List Pr} {i : Nat} (h : i < ps.length) : (prc (ps.take i)).length = i * 6 := by rw [prc_len, List.length_take]; omega
theorem prc_at {ps : List Pr} {i : Nat} (h : i < ps.length) {j : Nat} {u : Value} (hj : ps[i].cells[j]? = some u) : (prc ps)[i * 6 + j]? = some u := by
  have hj6 : j < 6 := (List.getElem?_eq_some_iff.1 hj).1
  rw [prc_split h, List.getElem?_append_right (by rw [take_len h]; omega), take_len h, Nat.add_sub_cancel_left, List.getElem?_append_left (by exact hj6)]
  exact hj
/-- lists of integers of the call's own, each in a block of its own -/
def Ivs (w : World) (lo hi : Nat) (TI : TypeId) (ss : List (Value × List Int)) : Prop :=
  (∀ s ∈ ss, Own w lo hi TI s.1 s.2.length (iv s.2)) ∧ (ss.filterMap fun s => s.1.ownBlock).Nodup
section
variable {w w' : World} {lo hi lo' hi' B n k l u : Nat} {TI EP : TypeId} {ss tt : List (Value × List Int)} {x : Value × List Int} {v : Value} {ps : List Pr}
theorem Own.lt {xs : List Value} (h : Own w lo hi TI v n xs) {g : Nat} (hg : v.ownBlock = some g) : lo ≤ g ∧ g < hi ∧ g < w.heap.size := by
  rcases h.2 with ⟨rfl, _⟩ | ⟨g', c, cur, rfl, h1, h2, _, _, h5, _⟩
  · simp [Value.ownBlock] at hg
  · simp [Value.ownBlock] at hg
    subst hg
    exact ⟨h1, h2, (Array.getElem?_eq_some_iff.1 h5).1⟩
theorem Own.kept {xs : List Value} (h : Own w lo hi TI v n xs) (hk : ∀ g, v.ownBlock = some g → w'.heap[g]? = w.heap[g]?) : Own w' lo hi TI v n xs := by
  refine ⟨h.1, ?_⟩
  rcases h.2 with h2 | ⟨g', c, cur, rfl, h1, h2, h3, h4, h5, h6⟩
  · exact .inl h2
  · exact .inr ⟨g', c, cur, rfl, h1, h2, h3, h4, (hk g' rfl).trans h5, h6⟩
theorem Own.tight {xs : List Value} (h : Own w lo hi TI v n xs) : ∃ l u, Own w l u TI v n xs ∧ ((v.ownBlock = none ∧ l = lo ∧ u = lo) ∨ (v.ownBlock = some l ∧ u = l + 1 ∧ lo ≤ l ∧ l < hi)) := by
  rcases h.2 with ⟨rfl, h2⟩ | ⟨g', c, cur, rfl, h1, h2, h3, h4, h5, h6⟩
  · exact ⟨lo, lo, ⟨h.1, .inl ⟨rfl, h2⟩⟩, .inl ⟨by simp [Value.ownBlock], rfl, rfl⟩⟩
  · exact ⟨g', g' + 1, ⟨h.1, .inr ⟨g', c, cur, rfl, Nat.le_refl _, Nat.lt_succ_self _, h3, h4, h5, h6⟩⟩, .inr ⟨rfl, rfl, h1, h2⟩⟩
theorem Own.type {xs : List Value} (h : Own w lo hi TI v n xs) {g : Nat} (hg : v.ownBlock = some g) : ∃ cur, w.heap[g]? = some (.cells cur TI (0, 0)) := by
  rcases h.2 with ⟨rfl, _⟩ | ⟨g', c, cur, rfl, h1, h2, _, _, h5, _⟩
  · simp [Value.ownBlock] at hg
  · simp [Value.ownBlock] at hg
    subst hg
    exact ⟨cur, h5⟩
theorem row_type {base size : Nat} {xs : List Value} (h : w.ownsRow base EP size v n xs) {g : Nat} (hg : v.ownBlock = some g) : ∃ cur fr, w.heap[g]? = some (.cells cur EP fr) := by
  rcases h.2 with ⟨rfl, _⟩ | ⟨g', c, cur, rfl, h1, h2, _⟩
  · simp [Value.ownBlock] at hg
  · simp [Value.ownBlock] at hg
    subst hg
    exact ⟨cur, _, h2⟩
/-- a row of points and a list of integers lie in different blocks -/
theorem row_own_ne {base size m : Nat} {xs ys : List Value} {v' : Value} (h : w.ownsRow base EP size v n xs) (h' : Own w lo hi TI v' m ys) (hne : EP ≠ TI) {g g' : Nat} (hg : v.ownBlock = some g) (hg' : v'.ownBlock = some g') : g ≠ g' := by
  rintro rfl
  obtain ⟨c1, f1, e1⟩ := row_type h hg
  obtain ⟨c2, e2⟩ := h'.type hg'
  rw [e1] at e2
  injection e2 with e2
  injection e2 with _ e2 _
  exact hne e2
theorem Ivs.nil (w : World) (lo hi : Nat) (TI : TypeId) : Ivs w lo hi TI [] := ⟨fun s hs => by simp at hs, by simp⟩
theorem Ivs.below (h : Ivs w lo hi TI ss) (hb : Below B w w') (hh : hi ≤ B) : Ivs w' lo hi TI ss := ⟨fun s hs => (h.1 s hs).below hb hh, h.2⟩
theorem Ivs.aside (h : Ivs w lo hi TI ss) (ha : Aside lo' hi' w w') (hd : hi ≤ lo' ∨ hi' ≤ lo) : Ivs w' lo hi TI ss := ⟨fun s hs => (h.1 s hs).aside ha hd, h.2⟩
theorem Ivs.wider (h : Ivs w lo hi TI ss) (hl : lo' ≤ lo) (hh : hi ≤ hi') : Ivs w lo' hi' TI ss := ⟨fun s hs => (h.1 s hs).wider hl hh, h.2⟩
theorem Ivs.kept (h : Ivs w lo hi TI ss) (hk : ∀ s ∈ ss, ∀ g, s.1.ownBlock = some g → w'.heap[g]? = w.heap[g]?) : Ivs w' lo hi TI ss := ⟨fun s hs => (h.1 s hs).kept (hk s hs), h.2⟩
theorem Ivs.append (h : Ivs w lo hi TI ss) (k : Ivs w hi hi' TI tt) (hl : lo ≤ hi) (hh : hi ≤ hi') : Ivs w lo hi' TI (ss ++ tt) := by
  refine ⟨fun s hs => ?_, ?_⟩
  · rcases List.mem_append.1 hs with hs | hs
    · exact (h.1 s hs).wider (Nat.le_refl _) hh
    · exact (k.1 s hs).wider hl (Nat.le_refl _)
  · rw [List.filterMap_append]
    refine List.nodup_append.2 ⟨h.2, k.2, fun a ha b hb => ?_⟩
    obtain ⟨s, hs, e1⟩ := List.mem_filterMap.1 ha
    obtain ⟨t, ht, e2⟩ := List.mem_filterMap.1 hb
    have h1 := (h.1 s hs).lt e1
    have h2 := (k.1 t ht).lt e2
    omega
/-- one list is written: the others stay -/
theorem Ivs.mark {a b : List (Value × List Int)} {ys : List Int} (h : Ivs w lo hi TI (a ++ x :: b)) (ht : (x.1.ownBlock = none ∧ l = lo ∧ u = lo) ∨ (x.1.ownBlock = some l ∧ u = l + 1 ∧ lo ≤ l ∧ l < hi)) (ha : Aside l u w w') (o : Own w' l u TI x.1 x.2.length (iv ys)) (hy : ys.length = x.2.length) :
    Ivs w' lo hi TI (a ++ (x.1, ys) :: b) := by
  have hnd := h.2
  rw [List.filterMap_append] at hnd
  obtain ⟨_, n2, n3⟩ := List.nodup_append.1 hnd
  have other : ∀ s ∈ a ++ x :: b, ∀ g, s.1.ownBlock = some g → x.1.ownBlock ≠ some g → w'.heap[g]? = w.heap[g]? := fun s hs g hg hx => by
    refine ha.block g (((h.1 s hs).lt hg).2.2) ?_
    rcases ht with ⟨_, rfl, rfl⟩ | ⟨e, rfl, _⟩
    · omega
    · have : g ≠ l := fun e' => hx (by rw [e, e'])
      omega
  have ha1 : ∀ s ∈ a, ∀ g, s.1.ownBlock = some g → x.1.ownBlock ≠ some g := fun s hs g hg hx => by
    exact n3 g (List.mem_filterMap.2 ⟨s, hs, hg⟩) g (List.mem_filterMap.2 ⟨x, by simp, hx⟩) rfl
  have hb1 : ∀ s ∈ b, ∀ g, s.1.ownBlock = some g → x.1.ownBlock ≠ some g := fun s hs g hg hx => by
    rw [List.filterMap_cons, hx] at n2
    exact (List.nodup_cons.1 n2).1 (List.mem_filterMap.2 ⟨s, hs, hg⟩)
  refine ⟨fun s hs => ?_, ?_⟩
  · rcases List.mem_append.1 hs with hs | hs
    · exact (h.1 s (List.mem_append_left _ hs)).kept fun g hg => other s (List.mem_append_left _ hs) g hg (ha1 s hs g hg)
    · rcases List.mem_cons.1 hs with rfl | hs
      · show Own w' lo hi TI x.1 ys.length (iv ys)
        rw [hy]
        rcases ht with ⟨hn, _, _⟩ | ⟨_, rfl, h1, h2⟩
        · rcases o.2 with e | ⟨g, c, cur, e, _⟩
          · exact ⟨o.1, .inl e⟩
          · rw [e] at hn; simp [Value.ownBlock] at hn
        · exact o.wider h1 (by omega)
      · exact (h.1 s (by simp [hs])).kept fun g hg => other s (by simp [hs]) g hg (hb1 s hs g hg)
  · have e : ((a ++ (x.1, ys) :: b).filterMap fun s => s.1.ownBlock) = ((a ++ x :: b).filterMap fun s => s.1.ownBlock) := by
      rw [List.filterMap_append, List.filterMap_append, List.filterMap_cons, List.filterMap_cons]
    rw [e]; exact h.2
theorem tight_aside {xs : List Value} (o : Own w lo hi TI v n xs) (ht : (v.ownBlock = none ∧ l = lo ∧ u = lo) ∨ (v.ownBlock = some l ∧ u = l + 1 ∧ lo ≤ l ∧ l < hi)) (ha : Aside l u w w') : (∀ g, g < w.heap.size → v.ownBlock ≠ some g → w'.heap[g]? = w.heap[g]?) := fun g hg hx => by
  refine ha.block g hg ?_
  rcases ht with ⟨_, rfl, rfl⟩ | ⟨e, rfl, _⟩
  · omega
  · have : g ≠ l := fun e' => hx (by rw [e, e'])
    omega
end
/-- what the marks make of a point in a list -/
def markN (k : Nat) (P : PQ) : PQ :=
  (((decide (k % 3 = 0), marksI (k + 1) P.1.1.2.length), marksI (k + 1 + P.1.1.2.length) P.1.2.length),
   ((decide ((k + 1 + P.1.1.2.length + P.1.2.length) % 3 = 0), marksI (k + 1 + P.1.1.2.length + P.1.2.length + 1) P.2.1.2.length), marksI (k + 1 + P.1.1.2.length + P.1.2.length + 1 + P.2.1.2.length) P.2.2.length))
def sizN (P : PQ) : Nat := 2 + P.1.1.2.length + P.1.2.length + P.2.1.2.length + P.2.2.length
def sizL (l : List PQ) : Nat := (l.map sizN).sum
def mkPr (k : Nat) (s : Pr) : Pr := { s with p := markN k s.p }
def mkPs : Nat → List Pr → List Pr
  | _, [] => []
  | k, s :: ps => mkPr k s :: mkPs (k + sizN s.p) ps
theorem mkPs_len : ∀ (k : Nat) (ps : List Pr), (mkPs k ps).length = ps.length
  | _, [] => rfl
  | k, s :: ps => by simp [mkPs, mkPs_len _ ps]
theorem sizL_take {ps : List Pr} {i : Nat} (h : i < ps.length) : sizL ((pts ps).take (i + 1)) = sizL ((pts ps).take i) + sizN ps[i].p := by
  unfold sizL
  rw [List.take_succ_eq_append_getElem (by rw [pts_len]; exact h), List.map_append, List.sum_append]
  simp [pts]
theorem mkPs_take : ∀ (ps : List Pr) (k i : Nat) (h : i < ps.length), (mkPs k ps).take (i + 1) = (mkPs k ps).take i ++ [mkPr (k + sizL ((pts ps).take i)) ps[i]]
  | [], _, i, h => by simp at h
  | s :: ps, k, 0, _ => by simp [mkPs, sizL]
  | s :: ps, k, i + 1, h => by
    have h' : i < ps.length := by simpa using h
    have ih := mkPs_take ps (k + sizN s.p) i h'
    have e : k + sizN s.p + sizL ((pts ps).take i) = k + sizL ((pts (s :: ps)).take (i + 1)) := by
      simp [pts, sizL]; omega
    rw [e] at ih
    simp only [mkPs, List.take_succ_cons, List.getElem_cons_succ, List.cons_append]
    rw [ih]
theorem mkPs_all (k : Nat) (ps : List Pr) {i : Nat} (h : ps.length ≤ i) : (mkPs k ps).take i = mkPs k ps := List.take_of_length_le (by rw [mkPs_len]; exact h)
theorem sizL_all (ps : List Pr) {i : Nat} (h : ps.length ≤ i) : sizL ((pts ps).take i) = sizL (pts ps) := by rw [List.take_of_length_le (by rw [pts_len]; exact h)]
theorem sizL_take_le (l : List PQ) (i : Nat) : sizL (l.take i) ≤ sizL l := by
  unfold sizL
  conv => rhs; rw [← List.take_append_drop i l]
  rw [List.map_append, List.sum_append]; omega
/-- a list of points of the call's own -/
def OwnPS (w : World) (lo hi : Nat) (EP TI : TypeId) (v : Value) (n : Nat) (ps : List Pr) : Prop :=
  w.ownsRow lo EP 6 v n (prc ps) ∧ (∀ g, v.ownBlock = some g → g < hi) ∧ Ivs w lo hi TI (sls ps)
section
variable {w w' : World} {lo hi lo' hi' B n : Nat} {TI EP : TypeId} {v : Value} {ps : List Pr} {A : Option Addr} {c : Nat}
theorem OwnPS.nil (w : World) (lo hi : Nat) (EP TI : TypeId) : OwnPS w lo hi EP TI (.slice none 0 0) 0 [] := ⟨World.ownsRow_nil _ _ _ _, fun g hg => by simp [Value.ownBlock] at hg, Ivs.nil _ _ _ _⟩
theorem OwnPS.below (h : OwnPS w lo hi EP TI v n ps) (hb : Below B w w') (hh : hi ≤ B) : OwnPS w' lo hi EP TI v n ps := ⟨own_below h.1 hb fun g hg => Nat.lt_of_lt_of_le (h.2.1 g hg) hh, h.2.1, h.2.2.below hb hh⟩
theorem OwnPS.aside (h : OwnPS w lo hi EP TI v n ps) (ha : Aside lo' hi' w w') (hd : hi ≤ lo' ∨ hi' ≤ lo) : OwnPS w' lo hi EP TI v n ps :=
  ⟨ownsRow_kept h.1 fun g hg => ha.block g (h.1.lt g hg).2 (by have h1 := (h.1.lt g hg).1; have h2 := h.2.1 g hg; omega), h.2.1, h.2.2.aside ha hd⟩
theorem OwnPS.wider (h : OwnPS w lo hi EP TI v n ps) (hl : lo' ≤ lo) (hh : hi ≤ hi') : OwnPS w lo' hi' EP TI v n ps := ⟨own_lower h.1 hl, fun g hg => Nat.lt_of_lt_of_le (h.2.1 g hg) hh, h.2.2.wider hl hh⟩
theorem OwnPS.form (h : OwnPS w lo hi EP TI v n ps) : ∃ A c, v = .slice A n c := own_shape h.1
theorem OwnPS.len (h : OwnPS w lo hi EP TI v n ps) : ps.length = n := by
  have h1 := h.1.1
  rw [prc_len] at h1
  omega
/-- a list of points that can be read below block B -/
def RdPS (w : World) (B : Nat) (A : Option Addr) (n : Nat) (ps : List Pr) : Prop :=
  ps.length = n ∧ Rd w B A (prc ps) ∧ ∀ s ∈ ps, PIn w B (.bool s.p.1.1.1) s.s1 s.s2 (.bool s.p.2.1.1) s.s4 s.s5 s.p
theorem own_rdI {E lo hi n : Nat} {A : Option Addr} {c : Nat} {xs : List Int} (o : Own w lo hi E (.slice A n c) n (iv xs)) (hh : hi ≤ B) (hl : n ≤ 1048576) (hw : wfL xs) : RdI w B A n xs :=
  ⟨by have h9 := o.len; rw [iv_len] at h9; exact h9, o.rdB hh, hl, hw⟩
theorem OwnPS.elt (h : OwnPS w lo hi EP TI v n ps) {s : Pr} (hs : s ∈ ps) : Own w lo hi TI s.s1 s.p.1.1.2.length (iv s.p.1.1.2) ∧ Own w lo hi TI s.s2 s.p.1.2.length (iv s.p.1.2) ∧ Own w lo hi TI s.s4 s.p.2.1.2.length (iv s.p.2.1.2) ∧ Own w lo hi TI s.s5 s.p.2.2.length (iv s.p.2.2) := by
  have g : ∀ x ∈ s.sl, x ∈ sls ps := fun x hx => List.mem_flatMap.2 ⟨s, hs, hx⟩
  exact ⟨h.2.2.1 _ (g (s.s1, s.p.1.1.2) (by simp [Pr.sl])), h.2.2.1 _ (g (s.s2, s.p.1.2) (by simp [Pr.sl])), h.2.2.1 _ (g (s.s4, s.p.2.1.2) (by simp [Pr.sl])), h.2.2.1 _ (g (s.s5, s.p.2.2) (by simp [Pr.sl]))⟩
theorem OwnPS.rdPS (h : OwnPS w lo hi EP TI (.slice A n c) n ps) (hh : hi ≤ B) (hf : ∀ s ∈ ps, PFit s.p) : RdPS w B A n ps := by
  refine ⟨h.len, ?_, fun s hs => ?_⟩
  · rcases own_form h.1 with ⟨_, _, hx⟩ | ⟨g, c', hv, _, _⟩
    · exact .inl hx
    · injection hv with e1 _ e3
      subst e1 e3
      refine .inr ⟨⟨g, 0, none⟩, rfl, Nat.lt_of_lt_of_le (h.2.1 g rfl) hh, fun j u hu => ?_⟩
      have hj := (List.getElem?_eq_some_iff.1 hu).1
      have hlen := h.1.1
      rw [Addr.add_lit, Nat.zero_add, h.1.cellAt j (by omega)]
      exact hu
  · obtain ⟨o1, o2, o4, o5⟩ := h.elt hs
    obtain ⟨⟨f1, f2, f3, f4⟩, g1, g2, g3, g4⟩ := hf s hs
    exact ⟨⟨_, _, _, _, _, _, rfl, rfl, rfl, own_rdI o1 hh f1 f3, own_rdI o2 hh f2 f4, o1.cap, o2.cap⟩, ⟨_, _, _, _, _, _, rfl, rfl, rfl, own_rdI o4 hh g1 g3, own_rdI o5 hh g2 g4, o4.cap, o5.cap⟩⟩
theorem RdPS.below (h : RdPS w B A n ps) (hb : Below B w w') : RdPS w' B A n ps := ⟨h.1, h.2.1.below hb, fun s hs => (h.2.2 s hs).below hb⟩
theorem add_more (ad : Addr) (k : Nat) : ∀ j, 0 < j → ad.add (k + j) = ⟨(ad.add k).block, (ad.add k).off + j, none⟩ := by
  intro j hj
  unfold Addr.add
  rw [if_neg (by omega)]
  split
  · subst_vars; simp
  · simp; omega
/-- the six cells of an element -/
theorem Rd.pt (h : Rd w B A (prc ps)) {k : Nat} (hk : k < ps.length) : ∃ ad, A = some ad ∧ ad.block < B ∧ w.cell? (ad.add (k * 6)) = some (.bool ps[k].p.1.1.1) ∧ w.cell? ⟨(ad.add (k * 6)).block, (ad.add (k * 6)).off + 1, none⟩ = some ps[k].s1 ∧ w.cell? ⟨(ad.add (k * 6)).block, (ad.add (k * 6)).off + 2, none⟩ = some ps[k].s2 ∧
    w.cell? ⟨(ad.add (k * 6)).block, (ad.add (k * 6)).off + 3, none⟩ = some (.bool ps[k].p.2.1.1) ∧ w.cell? ⟨(ad.add (k * 6)).block, (ad.add (k * 6)).off + 4, none⟩ = some ps[k].s4 ∧ w.cell? ⟨(ad.add (k * 6)).block, (ad.add (k * 6)).off + 5, none⟩ = some ps[k].s5 := by
  rcases h with e | ⟨ad, e, hb, hc⟩
  · have := prc_len ps
    rw [e] at this
    simp at this; omega
  · have g := fun j (hj : 0 < j) => add_more ad (k * 6) j hj
    refine ⟨ad, e, hb, ?_, ?_, ?_, ?_, ?_, ?_⟩
    · exact hc (k * 6) _ (prc_at hk (j := 0) rfl)
    · rw [← g 1 (by omega)]; exact hc _ _ (prc_at hk (j := 1) rfl)
    · rw [← g 2 (by omega)]; exact hc _ _ (prc_at hk (j := 2) rfl)
    · rw [← g 3 (by omega)]; exact hc _ _ (prc_at hk (j := 3) rfl)
    · rw [← g 4 (by omega)]; exact hc _ _ (prc_at hk (j := 4) rfl)
    · rw [← g 5 (by omega)]; exact hc _ _ (prc_at hk (j := 5) rfl)
end
end Go.Proofs.YtocllmaikngoaaaGreatDoor

/-
  The laws' helpers over lists of points (1): eqPointS.
-/


namespace Go.Proofs.YtocllmaikngoaaaGreatDoor
open Go.RowKit
set_option linter.unusedVariables false
set_option maxRecDepth 100000 in
set_option maxHeartbeats 6400000 in
theorem eqPS_any (w : World) (B : Nat) (hB : B ≤ w.heap.size) (A : Option Addr) (n c : Nat) (ps : List Pr) (R : RdPS w B A n ps) (D : Option Addr) (d : Nat) (qs : List Pr) (T : RdPS w B D n qs) (hp : pts qs = pts ps) (hl : n ≤ 1000000000) :
    Calls Tryz.prog 12 #[.slice A n c, .slice D n d] w fun e w' => e = .returned (.bool true) ∧ Below w.heap.size w w' := by
  obtain ⟨hn, hx, hs⟩ := R
  obtain ⟨hm, hy, ht⟩ := T
  go_enter Tryz.func12, Tryz.ntmps12
  go_wp2_with fail
  go_loopw [5] (fun i wr => ∃ k : Nat, k ≤ n ∧ i = .int .i64 k ∧ Below w.heap.size w wr) (fun i _ => n - (intOf i).toNat)
  case atStart => exact ⟨0, Nat.zero_le _, rfl, Below.refl _ _⟩
  case round =>
    obtain ⟨k, hk, rfl, hbel⟩ := hrel
    by_cases hlt : k < n
    · have hkp : k < ps.length := by omega
      have hkq : k < qs.length := by omega
      obtain ⟨ad, hA, hb1, a0, a1, a2, a3, a4, a5⟩ := (hx.below (hbel.mono hB)).pt hkp
      obtain ⟨ae, hE, hb3, e0, e1, e2, e3, e4, e5⟩ := (hy.below (hbel.mono hB)).pt hkq
      have hpk : qs[k].p = ps[k].p := by
        have h1 : (pts qs)[k]'(by rw [pts_len]; exact hkq) = qs[k].p := by simp [pts]
        have h2 : (pts ps)[k]'(by rw [pts_len]; exact hkp) = ps[k].p := by simp [pts]
        rw [← h1, ← h2]
        congr 1
      have P1 := (hs _ (List.getElem_mem hkp)).below (hbel.mono hB)
      have P2 := (ht _ (List.getElem_mem hkq)).below (hbel.mono hB)
      simp only [Pr.s1, Pr.s2, Pr.s4, Pr.s5] at a1 a2 a4 a5 e1 e2 e4 e5 P1 P2
      rw [hpk] at P2
      rw [hpk] at e0 e1 e2 e3 e4 e5
      have HQ := hide (fun (W : World) (hb : Below wr.heap.size wr W) => eqP_any W B (Nat.le_trans hB (Nat.le_trans hbel.size hb.size)) (P1.below (hb.mono (Nat.le_trans hB hbel.size))) (P2.below (hb.mono (Nat.le_trans hB hbel.size))))
      have hba : (ad.add (k * 6)).block < wr.heap.size := by rw [add_block]; have := hbel.size; omega
      have hbe : (ae.add (k * 6)).block < wr.heap.size := by rw [add_block]; have := hbel.size; omega
      clear P1 P2 hs ht hx hy hpk hp
      generalize ps[k].p.1.1.1 = b0 at *
      generalize ps[k].p.2.1.1 = b3 at *
      generalize ps[k].p.1.1.2.length = n1 at *
      generalize ps[k].p.1.2.length = n2 at *
      generalize ps[k].p.2.1.2.length = n4 at *
      generalize ps[k].p.2.2.length = n5 at *
      generalize ps[k].a1 = A1 at *
      generalize ps[k].a2 = A2 at *
      generalize ps[k].a4 = A4 at *
      generalize ps[k].a5 = A5 at *
      generalize ps[k].c1 = c1 at *
      generalize ps[k].c2 = c2 at *
      generalize ps[k].c4 = c4 at *
      generalize ps[k].c5 = c5 at *
      generalize qs[k].a1 = D1 at *
      generalize qs[k].a2 = D2 at *
      generalize qs[k].a4 = D4 at *
      generalize qs[k].a5 = D5 at *
      generalize qs[k].c1 = d1 at *
      generalize qs[k].c2 = d2 at *
      generalize qs[k].c4 = d4 at *
      generalize qs[k].c5 = d5 at *
      subst hA
      subst hE
      have hbs := hbel.size
      have hj0 : (0 : Int) ≤ (k : Int) := Int.natCast_nonneg _
      have hj1 : (k : Int) < (n : Int) := by omega
      have HKS := hide (fun (W : World) (hq : Below wr.heap.size wr W) => (⟨(hq.cell hba).trans a0, (hq.cell (p := ⟨_, _, none⟩) hba).trans a1, (hq.cell (p := ⟨_, _, none⟩) hba).trans a2, (hq.cell (p := ⟨_, _, none⟩) hba).trans a3, (hq.cell (p := ⟨_, _, none⟩) hba).trans a4, (hq.cell (p := ⟨_, _, none⟩) hba).trans a5, (hq.cell hbe).trans e0, (hq.cell (p := ⟨_, _, none⟩) hbe).trans e1, (hq.cell (p := ⟨_, _, none⟩) hbe).trans e2, (hq.cell (p := ⟨_, _, none⟩) hbe).trans e3, (hq.cell (p := ⟨_, _, none⟩) hbe).trans e4, (hq.cell (p := ⟨_, _, none⟩) hbe).trans e5⟩ : W.cell? (ad.add (k * 6)) = some (.bool b0) ∧ W.cell? ⟨(ad.add (k * 6)).block, (ad.add (k * 6)).off + 1, none⟩ = some (.slice A1 n1 c1) ∧ W.cell? ⟨(ad.add (k * 6)).block, (ad.add (k * 6)).off + 2, none⟩ = some (.slice A2 n2 c2) ∧ W.cell? ⟨(ad.add (k * 6)).block, (ad.add (k * 6)).off + 3, none⟩ = some (.bool b3) ∧ W.cell? ⟨(ad.add (k * 6)).block, (ad.add (k * 6)).off + 4, none⟩ = some (.slice A4 n4 c4) ∧ W.cell? ⟨(ad.add (k * 6)).block, (ad.add (k * 6)).off + 5, none⟩ = some (.slice A5 n5 c5) ∧ W.cell? (ae.add (k * 6)) = some (.bool b0) ∧ W.cell? ⟨(ae.add (k * 6)).block, (ae.add (k * 6)).off + 1, none⟩ = some (.slice D1 n1 d1) ∧ W.cell? ⟨(ae.add (k * 6)).block, (ae.add (k * 6)).off + 2, none⟩ = some (.slice D2 n2 d2) ∧ W.cell? ⟨(ae.add (k * 6)).block, (ae.add (k * 6)).off + 3, none⟩ = some (.bool b3) ∧ W.cell? ⟨(ae.add (k * 6)).block, (ae.add (k * 6)).off + 4, none⟩ = some (.slice D4 n4 d4) ∧ W.cell? ⟨(ae.add (k * 6)).block, (ae.add (k * 6)).off + 5, none⟩ = some (.slice D5 n5 d5)))
      have HS0 : Hid (Below wr.heap.size wr wr.drew) := (Below.refl _ _).drew
      go_upto_region 6 with fail
      go_region_held3 (fun w' => w'.cell? (ad.add (k * 6)) = some (.bool b0) ∧ w'.cell? ⟨(ad.add (k * 6)).block, (ad.add (k * 6)).off + 1, none⟩ = some (.slice A1 n1 c1) ∧ w'.cell? ⟨(ad.add (k * 6)).block, (ad.add (k * 6)).off + 2, none⟩ = some (.slice A2 n2 c2) ∧ w'.cell? ⟨(ad.add (k * 6)).block, (ad.add (k * 6)).off + 3, none⟩ = some (.bool b3) ∧ w'.cell? ⟨(ad.add (k * 6)).block, (ad.add (k * 6)).off + 4, none⟩ = some (.slice A4 n4 c4) ∧ w'.cell? ⟨(ad.add (k * 6)).block, (ad.add (k * 6)).off + 5, none⟩ = some (.slice A5 n5 c5) ∧ w'.cell? (ae.add (k * 6)) = some (.bool b0) ∧ w'.cell? ⟨(ae.add (k * 6)).block, (ae.add (k * 6)).off + 1, none⟩ = some (.slice D1 n1 d1) ∧ w'.cell? ⟨(ae.add (k * 6)).block, (ae.add (k * 6)).off + 2, none⟩ = some (.slice D2 n2 d2) ∧ w'.cell? ⟨(ae.add (k * 6)).block, (ae.add (k * 6)).off + 3, none⟩ = some (.bool b3) ∧ w'.cell? ⟨(ae.add (k * 6)).block, (ae.add (k * 6)).off + 4, none⟩ = some (.slice D4 n4 d4) ∧ w'.cell? ⟨(ae.add (k * 6)).block, (ae.add (k * 6)).off + 5, none⟩ = some (.slice D5 n5 d5))
        (first | (with_reducible exact HKS.out _ HS1.out) | (with_reducible exact HKS.out _ HS0.out))
        (first | (go_at_call 14; refine (HQ.out _ HS0.out).mono ?_; rintro e w1 ⟨rfl, hb2⟩; have HS1 := hide (below_then HS0.out hb2)))
      have hbf := hbel.trans (HS1.out.mono hbs)
      go_wp2_with fail
      go_roundw
      case rel => exact ⟨k + 1, by omega, by go_num, hbf⟩
      case measure => simp [intOf]; omega
    · obtain rfl : k = n := by omega
      go_wp2_with fail
      go_ret
      exact ⟨rfl, hbel⟩
end Go.Proofs.YtocllmaikngoaaaGreatDoor

/-
  The laws' helpers over lists of points (2): marks.
-/


namespace Go.Proofs.YtocllmaikngoaaaGreatDoor
open Go.RowKit
set_option linter.unusedVariables false
/-- one list of integers is marked: the others of the lists stay, and the row of the points -/
theorem mark_ivs (w : World) (lo hi : Nat) (TI EP : TypeId) (a b : List (Value × List Int)) (x : Value × List Int) (k base n size : Nat) (v : Value) (xs : List Value) (hne : EP ≠ TI) (h : Ivs w lo hi TI (a ++ x :: b)) (row : w.ownsRow base EP size v n xs) (hl : x.2.length ≤ 100000000) (hk : k ≤ 900000000) :
    Calls Tryz.prog 49 #[x.1, .int .i64 k] w fun e w' => e = .returned (.int .i64 ((k + x.2.length : Nat) : Int)) ∧ Ivs w' lo hi TI (a ++ (x.1, marksI k x.2.length) :: b) ∧ Aside lo hi w w' ∧ w'.ownsRow base EP size v n xs := by
  have o := h.1 x (by simp)
  obtain ⟨l, u, ot, ht⟩ := o.tight
  refine (markIntS_own x.1 x.2.length k TI l u (iv x.2) w ot (by omega) (by omega)).mono ?_
  rintro e w' ⟨rfl, o', ha⟩
  refine ⟨rfl, h.mark ht ha o' (marksI_len _ _), ?_, ?_⟩
  · rcases ht with ⟨_, rfl, rfl⟩ | ⟨_, rfl, h1, h2⟩
    · exact ⟨ha.os, ha.tape, ha.output, ha.size, fun g hg _ => ha.block g hg (by omega)⟩
    · exact ha.wide h1 (by omega)
  · refine ownsRow_kept row fun g hg => tight_aside o ht ha g (row.lt g hg).2 fun e => ?_
    exact row_own_ne row o hne hg e rfl
theorem mark_el (w : World) (lo hi : Nat) (TI EP : TypeId) (a b : List (Value × List Int)) (A : Option Addr) (c : Nat) (l : List Int) (K base n size : Nat) (v : Value) (xs : List Value) (hne : EP ≠ TI) (h : Ivs w lo hi TI (a ++ (.slice A l.length c, l) :: b)) (row : w.ownsRow base EP size v n xs) (hl : l.length ≤ 100000000) (hk : K ≤ 900000000) (q : Int) (hq : q = (K : Int)) :
    Calls Tryz.prog 49 #[.slice A l.length c, .int .i64 q] w fun e w' => ∃ K' : Nat, K' = K + l.length ∧ e = .returned (.int .i64 (K' : Int)) ∧ Ivs w' lo hi TI (a ++ (.slice A l.length c, marksI K l.length) :: b) ∧ Aside lo hi w w' ∧ w'.ownsRow base EP size v n xs := by
  subst hq
  exact (mark_ivs w lo hi TI EP a b (.slice A l.length c, l) K base n size v xs hne h row hl hk).mono fun e w' ⟨he, h1, h2, h3⟩ => ⟨_, rfl, he, h1, h2, h3⟩
/-- a cell of the row is written: the lists stay -/
theorem Ivs.setRow {w : World} {lo hi base n size g j : Nat} {TI EP : TypeId} {ss : List (Value × List Int)} {v u : Value} {xs : List Value} (h : Ivs w lo hi TI ss) (row : w.ownsRow base EP size v n xs) (hg : v.ownBlock = some g) (hne : EP ≠ TI) : Ivs (w.setCell ⟨g, j, none⟩ u) lo hi TI ss :=
  h.kept fun s hs b hb => ((Aside.refl w (lo := g) (hi := g + 1)).setCell (a := ⟨g, j, none⟩) (Nat.le_refl _) (Nat.lt_succ_self _) u).block b ((h.1 s hs).lt hb).2.2 (by have h9 : g ≠ b := row_own_ne row (h.1 s hs) hne hg hb; omega)
theorem set_cell0 {a b : List Value} {c0 u : Value} {m : Nat} (h : a.length = m) : (a ++ (c0 :: b)).set m u = a ++ (u :: b) := by
  subst h
  simp
theorem set_cell3 {a b : List Value} {c0 c1 c2 c3 u : Value} {m : Nat} (h : a.length = m) : (a ++ c0 :: c1 :: c2 :: c3 :: b).set (m + 3) u = a ++ c0 :: c1 :: c2 :: u :: b := by
  subst h
  simp
theorem Tryz.types_pt : (49 : TypeId) ≠ 3 := by decide
end Go.Proofs.YtocllmaikngoaaaGreatDoor
