/-
  The texts Mem, IntI, NatP, Own, DigP, NatQ, NatM of this claim, put together; each has its own heading below. No condition of ours.
-/
import Derived.Test.YtapjblghnflekaaDoorRows
import Derived.WalkKit
import Derived.WalkSpells
import Derived.WalkLawsBesides
import Derived.ProofKit
import Derived.Deep.RegionHeld3
import Derived.Deep.QuietTactic
import Derived.BigQuiet
import Derived.Lib.SmallJoins
import Derived.Laws.AppendOwnNone
/-
  Small words for slices in memory: what is readable through a slice value, and how it is kept while a call makes memory of its own. Over any program.
-/









namespace Go.Proofs.YtapjblghnflekaaDoor
open Go.RowKit

theorem hide {p : Prop} (h : p) : Hid p := h
theorem add_zero' (a : Addr) : a.add 0 = a := by unfold Addr.add; simp
theorem add_block (a : Addr) (k : Nat) : (a.add k).block = a.block := by unfold Addr.add; split <;> rfl

/-- The slice value with head A reads, below block B, as the cells xs. -/
def Rd (w : World) (B : Nat) (A : Option Addr) (xs : List Value) : Prop :=
  xs = [] ∨ ∃ ad, A = some ad ∧ ad.block < B ∧ ∀ k u, xs[k]? = some u → w.cell? (ad.add k) = some u

section
variable {w w' : World} {B B' : Nat} {A : Option Addr} {xs : List Value}
theorem Rd.nil (w : World) (B : Nat) (A : Option Addr) : Rd w B A [] := .inl rfl
theorem Rd.at_ (h : Rd w B A xs) {k : Nat} (hk : k < xs.length) : ∃ ad, A = some ad ∧ ad.block < B ∧ w.cell? (ad.add k) = some xs[k] := by
  rcases h with rfl | ⟨ad, e, hb, hc⟩
  · exact absurd hk (Nat.not_lt_zero _)
  · exact ⟨ad, e, hb, hc k _ (List.getElem?_eq_getElem hk)⟩
theorem Rd.same (h : Rd w B A xs) (hc : ∀ p : Addr, p.block < B → w'.cell? p = w.cell? p) : Rd w' B A xs := by
  rcases h with e | ⟨ad, e, hb, hr⟩
  · exact .inl e
  · exact .inr ⟨ad, e, hb, fun k u hu => (hc _ (by rw [add_block]; exact hb)).trans (hr k u hu)⟩
theorem Rd.wider (h : Rd w B A xs) (hB : B ≤ B') : Rd w B' A xs := by
  rcases h with e | ⟨ad, e, hb, hr⟩
  · exact .inl e
  · exact .inr ⟨ad, e, Nat.lt_of_lt_of_le hb hB, hr⟩
theorem Rd.below (h : Rd w B A xs) (hb : Below B w w') : Rd w' B A xs := h.same fun _ hp => hb.cell hp
theorem Rd.alloc (h : Rd w B A xs) (hB : B ≤ w.heap.size) (o : Obj) : Rd (w.alloc o) B A xs := h.below ((Below.refl _ _).alloc hB o)
end

section
variable {w w' : World} {base base' B : Nat} {e : TypeId} {size n : Nat} {v : Value} {xs : List Value}
theorem own_form (h : w.ownsRow base e size v n xs) : (v = .slice none 0 0 ∧ n = 0 ∧ xs = []) ∨ ∃ g c, v = .slice (some ⟨g, 0, none⟩) n c ∧ base ≤ g ∧ g < w.heap.size := by
  rcases h.2 with ⟨rfl, rfl⟩ | ⟨g, c, cur, rfl, hb, hg, _⟩
  · exact .inl ⟨rfl, rfl, List.eq_nil_of_length_eq_zero (by simpa using h.1)⟩
  · exact .inr ⟨g, c, rfl, hb, (Array.getElem?_eq_some_iff.1 hg).1⟩
theorem own_below (h : w.ownsRow base e size v n xs) (hb : Below B w w') (hB : ∀ g, v.ownBlock = some g → g < B) : w'.ownsRow base e size v n xs := by
  refine ⟨h.1, ?_⟩
  rcases h.2 with hn | ⟨g, c, cur, rfl, hbg, hg, r⟩
  · exact .inl hn
  · exact .inr ⟨g, c, cur, rfl, hbg, by rw [hb.block g (hB g (by simp [Value.ownBlock]))]; exact hg, r⟩
theorem own_grown (h : w.ownsRow base e size v n xs) (hb : Below w.heap.size w w') : w'.ownsRow base e size v n xs :=
  own_below h hb fun g hg => (h.lt g hg).2
theorem own_lower (h : w.ownsRow base e size v n xs) (hb : base' ≤ base) : w.ownsRow base' e size v n xs := by
  refine ⟨h.1, ?_⟩
  rcases h.2 with hn | ⟨g, c, cur, rfl, hbg, hg, r⟩
  · exact .inl hn
  · exact .inr ⟨g, c, cur, rfl, Nat.le_trans hb hbg, hg, r⟩
/-- a row of the call's own, as what is readable -/
theorem own_reads (h : w.ownsRow base e 1 v n xs) : ∃ A c, v = .slice A n c ∧ xs.length = n ∧ n ≤ maxLen ∧ Rd w w.heap.size A xs := by
  have hx : xs.length = n := by have := h.1; omega
  rcases h.2 with ⟨rfl, rfl⟩ | ⟨g, c, cur, rfl, hb, hg, hnc, hc, r⟩
  · exact ⟨none, 0, rfl, hx, Nat.zero_le _, .inl (List.eq_nil_of_length_eq_zero hx)⟩
  · exact ⟨some ⟨g, 0, none⟩, c, rfl, hx, Nat.le_trans hnc hc, .inr ⟨_, rfl, (Array.getElem?_eq_some_iff.1 hg).1, h.cells (g := g) (by simp [Value.ownBlock])⟩⟩
end
/-- the strings of a list, as cells -/
def sv (xs : List ByteArray) : List Value := xs.map Value.string
theorem sv_len (xs : List ByteArray) : (sv xs).length = xs.length := by simp [sv]
theorem sv_take (xs : List ByteArray) (k : Nat) : sv (xs.take k) = (sv xs).take k := by simp [sv, List.map_take]
theorem sv_at {xs : List ByteArray} {k : Nat} (h : k < xs.length) : (sv xs)[k]'(by rw [sv_len]; exact h) = .string xs[k] := by simp [sv]
theorem Rd.str {w : World} {B : Nat} {A : Option Addr} {xs : List ByteArray} (h : Rd w B A (sv xs)) {k : Nat} (hk : k < xs.length) : ∃ ad, A = some ad ∧ ad.block < B ∧ w.cell? (ad.add k) = some (.string xs[k]) := by
  obtain ⟨ad, h1, h2, h3⟩ := h.at_ (k := k) (by rw [sv_len]; exact hk)
  exact ⟨ad, h1, h2, by rw [h3, sv_at hk]⟩
/-- the integers of a list, as cells -/
def iv (xs : List Int) : List Value := xs.map (Value.int .i64)
theorem iv_len (xs : List Int) : (iv xs).length = xs.length := by simp [iv]
theorem iv_at {xs : List Int} {k : Nat} (h : k < xs.length) : (iv xs)[k]'(by rw [iv_len]; exact h) = .int .i64 xs[k] := by simp [iv]
theorem Rd.int {w : World} {B : Nat} {A : Option Addr} {xs : List Int} (h : Rd w B A (iv xs)) {k : Nat} (hk : k < xs.length) : ∃ ad, A = some ad ∧ ad.block < B ∧ w.cell? (ad.add k) = some (.int .i64 xs[k]) := by
  obtain ⟨ad, h1, h2, h3⟩ := h.at_ (k := k) (by rw [iv_len]; exact hk)
  exact ⟨ad, h1, h2, by rw [h3, iv_at hk]⟩

/-- a list of strings that came in: nil, or a row of cells (those behind the length are its spare room) -/
def IsStrs (w : World) (a : Option Addr) (len cap : Nat) (zs : List ByteArray) : Prop :=
  (a = none ∧ len = 0 ∧ cap = 0 ∧ zs = []) ∨
  ∃ x, a = some x ∧ len ≤ cap ∧ cap ≤ maxLen ∧ zs.length = cap ∧ (∀ i, i < zs.length → w.cell? (x.add i) = some (.string (zs.getD i ByteArray.empty))) ∧ ∀ s ∈ zs, s.size ≤ maxLen
theorem IsStrs.rd {w : World} {a : Option Addr} {len cap : Nat} {zs : List ByteArray} (h : IsStrs w a len cap zs) :
    Rd w w.heap.size a (sv (zs.take len)) ∧ (zs.take len).length = len ∧ len ≤ maxLen ∧ ∀ s ∈ zs.take len, s.size ≤ maxLen := by
  rcases h with ⟨rfl, rfl, rfl, rfl⟩ | ⟨x, rfl, hl, hm, hz, hc, hs⟩
  · exact ⟨.inl rfl, rfl, Nat.zero_le _, fun s hs => by simp at hs⟩
  · have hlen : (zs.take len).length = len := by rw [List.length_take]; omega
    refine ⟨?_, hlen, Nat.le_trans hl hm, fun s h => hs s (List.mem_of_mem_take h)⟩
    by_cases h0 : len = 0
    · subst h0; exact .inl rfl
    · refine .inr ⟨x, rfl, ?_, fun k u hu => ?_⟩
      · have := World.block_lt_of_cell? w _ (hc 0 (by omega))
        rwa [add_block] at this
      · have hk : k < len := by
          have := (List.getElem?_eq_some_iff.1 hu).1
          rw [sv_len, hlen] at this; exact this
        rw [hc k (by omega)]
        simp [sv, hk, List.getElem?_eq_getElem (show k < zs.length by omega)] at hu
        simp [List.getD, List.getElem?_eq_getElem (show k < zs.length by omega), hu]
/-- a list of integers that came in -/
def IsRow (k : IntKind) (w : World) (a : Option Addr) (len cap : Nat) (zs : List Int) : Prop :=
  (a = none ∧ len = 0 ∧ cap = 0 ∧ zs = []) ∨
  ∃ x, a = some x ∧ len ≤ cap ∧ cap ≤ maxLen ∧ zs.length = cap ∧ (∀ i, i < zs.length → w.cell? (x.add i) = some (.int k (zs.getD i 0))) ∧ ∀ n ∈ zs, (Lit.int k n).wf = true
theorem IsRow.rd {w : World} {a : Option Addr} {len cap : Nat} {zs : List Int} (h : IsRow .i64 w a len cap zs) :
    Rd w w.heap.size a (iv (zs.take len)) ∧ (zs.take len).length = len ∧ len ≤ maxLen ∧ ∀ s ∈ zs.take len, (Lit.int .i64 s).wf = true := by
  rcases h with ⟨rfl, rfl, rfl, rfl⟩ | ⟨x, rfl, hl, hm, hz, hc, hs⟩
  · exact ⟨.inl rfl, rfl, Nat.zero_le _, fun s hs => by simp at hs⟩
  · have hlen : (zs.take len).length = len := by rw [List.length_take]; omega
    refine ⟨?_, hlen, Nat.le_trans hl hm, fun s h => hs s (List.mem_of_mem_take h)⟩
    by_cases h0 : len = 0
    · subst h0; exact .inl rfl
    · refine .inr ⟨x, rfl, ?_, fun k u hu => ?_⟩
      · have := World.block_lt_of_cell? w _ (hc 0 (by omega))
        rwa [add_block] at this
      · have hk : k < len := by
          have := (List.getElem?_eq_some_iff.1 hu).1
          rw [iv_len, hlen] at this; exact this
        rw [hc k (by omega)]
        simp [iv, hk, List.getElem?_eq_getElem (show k < zs.length by omega)] at hu
        simp [List.getD, List.getElem?_eq_getElem (show k < zs.length by omega), hu]

/-- the first j cells written with f, the others as they were -/
def fillTo (f : Nat → Value) (ys : List Value) (j : Nat) : List Value := (List.range j).map f ++ ys.drop j
theorem fillTo_zero (f : Nat → Value) (ys : List Value) : fillTo f ys 0 = ys := by simp [fillTo]
theorem fillTo_all {f : Nat → Value} {ys : List Value} {n : Nat} (h : ys.length = n) : fillTo f ys n = (List.range n).map f := by simp [fillTo, ← h]
theorem fillTo_get (f : Nat → Value) (ys : List Value) (j i : Nat) : (fillTo f ys j)[i]? = if i < j then some (f i) else ys[i]? := by
  by_cases hi : i < j
  · rw [if_pos hi, fillTo, List.getElem?_append_left (by simpa using hi)]
    simp [hi]
  · rw [if_neg hi, fillTo, List.getElem?_append_right (by simpa using hi), List.length_map, List.length_range, List.getElem?_drop]
    congr 1; omega
theorem fillTo_step {f : Nat → Value} {ys : List Value} {j : Nat} (h : j < ys.length) : (fillTo f ys j).set j (f j) = fillTo f ys (j + 1) := by
  have hl : (fillTo f ys j).length = ys.length := by simp [fillTo]; omega
  apply List.ext_getElem?
  intro i
  rw [List.getElem?_set, fillTo_get, fillTo_get]
  by_cases hij : j = i
  · subst hij; simp [hl, h]
  · rw [if_neg hij]
    by_cases hi : i < j
    · rw [if_pos hi, if_pos (by omega)]
    · rw [if_neg hi, if_neg (by omega)]
theorem own_cell {w : World} {base g n c j : Nat} {E : TypeId} {xs : List Value} (h : w.ownsRow base E 1 (.slice (some ⟨g, 0, none⟩) n c) n xs) (hj : j < n) : ∃ u, w.cell? ⟨g, j, none⟩ = some u := by
  have hx : xs.length = n := by have := h.1; omega
  exact ⟨_, (h.cellAt j (by omega)).trans (List.getElem?_eq_getElem (by omega))⟩
theorem keepS {wr w0 w1 : World} {a : Addr} {v : Value} (hc : w0.cell? a = some v) (hb : Below wr.heap.size wr w0) (hb2 : Below w0.heap.size w0 w1) (hlt : a.block < wr.heap.size) : w1.cell? a = some v ∧ Below wr.heap.size wr w1 :=
  ⟨(hb2.cell (Nat.lt_of_lt_of_le hlt hb.size)).trans hc, hb.trans (hb2.mono hb.size)⟩
theorem undrew {wr w1 : World} (h : Below wr.drew.heap.size wr.drew w1) : Below wr.heap.size wr w1 := (Below.refl _ wr).drew.trans h
theorem below_drewN {B : Nat} {a w : World} (h : Below B a w) (n : Nat) : Below B a (w.drewN n) := ⟨h.os, h.tape, h.output, h.size, h.block⟩

theorem own_rd {w : World} {base : Nat} {e : TypeId} {A : Option Addr} {n c : Nat} {xs : List Value} (h : w.ownsRow base e 1 (.slice A n c) n xs) : Rd w w.heap.size A xs := by
  obtain ⟨A', c', hv, _, _, hr⟩ := own_reads h
  injection hv with h1 _ _
  rw [h1]; exact hr

theorem bcell {B : Nat} {W w1 : World} (hb : Below B W w1) : (∀ b o, b < B → w1.cell? ⟨b, o, none⟩ = W.cell? ⟨b, o, none⟩) ∧ (∀ b o, b < B → w1.frozen? ⟨b, o, none⟩ = W.frozen? ⟨b, o, none⟩) :=
  ⟨fun b o h => hb.cell (p := ⟨b, o, none⟩) h, fun b o h => hb.frozen (p := ⟨b, o, none⟩) h⟩

/-- a new slice of one byte, made a string -/
theorem conv_one {P : Program} {src dst e : TypeId} (hs : P.underlying src = some (.slice e)) (he : P.underlying e = some (.int .u8)) (hd : P.underlying dst = some .string) (W : World) (c : Nat) (x : Int) (b : UInt8) (hx : x = (b.toNat : Int)) :
    (convert src dst (.slice (some ⟨W.heap.size, 0, none⟩) 1 c)).run P (W.alloc (.cells #[.int .u8 x] e)) = .ok (.string ⟨[b].toArray⟩) (W.alloc (.cells #[.int .u8 x] e)) := by
  subst hx
  refine run_convert_bytes_back (W.alloc (.cells #[.int .u8 (b.toNat : Int)] e)) src dst e ⟨W.heap.size, 0, none⟩ c [b] hs he hd fun j hj => ?_
  have h0 : j = 0 := by simpa using hj
  subst h0
  exact World.cell?_alloc_mark W _ e (0, 0) 0

/-- one byte at an address, made a string -/
theorem conv_cell {P : Program} {src dst e : TypeId} (hs : P.underlying src = some (.slice e)) (he : P.underlying e = some (.int .u8)) (hd : P.underlying dst = some .string) (c : Nat) (x : Int) (b : UInt8) (hx : x = (b.toNat : Int)) :
    ∀ (W : World) (g : Nat), W.cell? ⟨g, 0, none⟩ = some (.int .u8 x) → (convert src dst (.slice (some ⟨g, 0, none⟩) 1 c)).run P W = .ok (.string ⟨[b].toArray⟩) W := by
  subst hx
  intro W g hc
  refine run_convert_bytes_back W src dst e ⟨g, 0, none⟩ c [b] hs he hd fun j hj => ?_
  have h0 : j = 0 := by simpa using hj
  subst h0
  rw [add_zero']; exact hc
theorem ba_size (S : ByteArray) : S.data.toList.length = S.size := Array.length_toList
theorem nonempty_t {s : ByteArray} (h : s.size = 0) : s.toList.isEmpty = true := by
  rw [ByteArray.toList_eq, List.isEmpty_iff]; exact List.eq_nil_of_length_eq_zero (by simpa using h)
theorem nonempty_f {s : ByteArray} (h : 0 < s.size) : s.toList.isEmpty = false := by
  rw [ByteArray.toList_eq]; cases hl : s.data.toList with
  | nil => have h1 := congrArg List.length hl; rw [Array.length_toList] at h1; have h2 : s.size = 0 := h1; omega
  | cons _ _ => rfl
/-- a row of the call's own, cut at its end -/
theorem own_cut {w : World} {base : Nat} {e : TypeId} {g n c m : Nat} {xs : List Value} (h : w.ownsRow base e 1 (.slice (some ⟨g, 0, none⟩) n c) n xs) (hm : m ≤ n) : w.ownsRow base e 1 (.slice (some ⟨g, 0, none⟩) m c) m (xs.take m) := by
  have hx : xs.length = n := by have := h.1; omega
  refine ⟨by rw [List.length_take]; omega, ?_⟩
  rcases h.2 with ⟨h', _⟩ | ⟨g', c', cur, hv, hb, hg, hnc, hc, hs, ht⟩
  · cases h'
  · injection hv with h1 h2 h3
    injection h1 with h1
    injection h1 with h1
    subst h1 h3
    refine .inr ⟨g, c, cur, rfl, hb, hg, by omega, hc, hs, ?_⟩
    rw [← ht, List.take_take]
    congr 1; omega

/-- what the program's table says of a slice type t over the element type e -/
def SliceOf (P : Program) (t e : TypeId) (size bytes : Nat) : Prop :=
  P.underlying t = some (.slice e) ∧ ∃ i z, P.info? e = some i ∧ i.zero = some z ∧ i.size = size ∧ i.bytes = bytes ∧ z.cells.size = size ∧ 0 < size
/-- one element, just built in a block of its own, appended to a row of the call's own -/
theorem wpList_append1 {P : Program} {t e : TypeId} {size bytes : Nat} (T : SliceOf P t e size bytes) {ops : Array Oper} {rest : List Oper} {o : Oper} {a : Act} {Q : Exit → Act → World → Prop}
    (hgd : o.guard = none) (s x : Operand) (ho : o.op = .call { callee := .builtin .append, args := #[s, x], argTypes := #[t, t] })
    (W : World) (base : Nat) (v : Value) (n : Nat) (xs : List Value) (hown : W.ownsRow base e size v n xs) (hs : a.eval s = v)
    (cs : Array Value) (c : Nat) (hx : a.eval x = .slice (some ⟨W.heap.size, 0, none⟩) 1 c) (hcs : cs.size = size) (h1 : ∀ u ∈ cs.toList, u.oneCell' = true)
    (hn : (n + 1) * bytes ≤ 140737488355328) (h63 : n + 1 ≤ 140737488355328) (hbase : base ≤ W.heap.size)
    (h : ∀ v' w', w'.ownsRow base e size v' (n + 1) (xs ++ cs.toList) → Below base W w' → wpList P ops Q rest (a.put o.dst v') w') :
    wpList P ops Q (o :: rest) a (W.alloc (.cells cs e)) := by
  obtain ⟨ht, i, z, hi, hz, hsize, hby, hzs, hsz⟩ := T
  refine wpList_append_own (W.alloc (.cells cs e)) hgd s x t ho base e i z size bytes ht hi hz hsize hby hzs hsz v n xs hs (hown.alloc _) ⟨W.heap.size, 0, none⟩ 1 c cs.toList hx (by simp [hcs]) ?_ h1 (by unfold maxLen; omega) hn (by simp; omega) ?_
  · intro j u hu
    have : (⟨W.heap.size, 0, none⟩ : Addr).add j = ⟨W.heap.size, j, none⟩ := by unfold Addr.add; split <;> simp_all
    rw [this, World.cell?_alloc_mark]
    simpa using hu
  · intro v' w' hown' hgrow _
    exact h v' w' hown' (((Below.refl base W).alloc hbase _).grown hgrow (by simp; omega) fun k hk => (hown.lt k hk).1)

theorem toList_inj {a b : ByteArray} (h : a.toList = b.toList) : a = b := by
  rw [ByteArray.toList_eq, ByteArray.toList_eq] at h
  exact ByteArray.ext (Array.ext' h)
theorem str_eq {a b : ByteArray} (h : a = b) : (a.toList == b.toList) = true := by subst h; simp
theorem str_ne {a b : ByteArray} (h : a ≠ b) : (a.toList == b.toList) = false := by
  rw [beq_eq_false_iff_ne]; exact fun e => h (toList_inj e)
theorem ret_bool {a b : Bool} (h : a = b) : Ending.returned (.bool a) = .returned (.bool b) := by rw [h]
theorem ret_int {k : IntKind} {a b : Int} (h : a = b) : Ending.returned (.int k a) = .returned (.int k b) := by rw [h]
theorem ret_string {a b : ByteArray} (h : a = b) : Ending.returned (.string a) = .returned (.string b) := by rw [h]
end Go.Proofs.YtapjblghnflekaaDoor

/-
  The laws' helpers for lists of integers: eqIntS, toIntS: contracts.
-/

namespace Go.Proofs.YtapjblghnflekaaDoor
open Go.RowKit
set_option linter.unusedVariables false

theorem Tryd.infoInt : (Tryd.prog.info? 3).map (fun i => (i.zero, i.size, i.bytes)) = some (some (.int .i64 0), 1, 8) := by kernel_rfl
theorem Tryd.sliceInt : SliceOf Tryd.prog 23 3 1 8 := by
  obtain ⟨i0, hi0, hz0, hz1, hz2⟩ := info_parts Tryd.infoInt
  exact ⟨Tryd.underlying23, i0, _, hi0, hz0, hz1, hz2, rfl, by omega⟩

def eqI (xs ys : List Int) : Bool := decide (xs = ys)
/-! ### toIntS: a copy in new memory -/
def intF (xs : List Int) (i : Nat) : Value := .int .i64 (xs.getD i 0)
theorem int_fill {xs : List Int} {ys : List Value} (h : ys.length = xs.length) : fillTo (intF xs) ys xs.length = iv xs := by
  rw [fillTo_all h]
  apply List.ext_getElem (by simp [iv])
  intro i h1 h2
  simp [iv] at h1 h2 ⊢
  simp [intF, List.getD, List.getElem?_eq_getElem h2]

end Go.Proofs.YtapjblghnflekaaDoor

/-
  Natural numbers as lists of limbs: plain mathematics. Of no program.
-/

namespace Go.Proofs.YtapjblghnflekaaDoor
open Go.RowKit
set_option linter.unusedVariables false

/-- every limb from 0 to Base - 1 -/
def Limbs (l : List Int) : Prop := ∀ d ∈ l, 0 ≤ d ∧ d ≤ 999999999
/-- no zero limb at the end -/
def Canon (l : List Int) : Prop := Limbs l ∧ ∀ d, l.getLast? = some d → d ≠ 0
/-- the value -/
def val : List Int → Int
  | [] => 0
  | d :: r => d + 1000000000 * val r
/-- the limbs of a number -/
def limbs (n : Nat) : List Int := if h : n = 0 then [] else ((n % 1000000000 : Nat) : Int) :: limbs (n / 1000000000)
  termination_by n
  decreasing_by omega
theorem limbs_zero : limbs 0 = [] := by rw [limbs]; simp
theorem limbs_pos {n : Nat} (h : 0 < n) : limbs n = ((n % 1000000000 : Nat) : Int) :: limbs (n / 1000000000) := by
  rw [limbs, dif_neg (by omega)]
theorem val_limbs (n : Nat) : val (limbs n) = n := by
  induction n using Nat.strongRecOn with
  | _ n ih =>
    by_cases h : n = 0
    · subst h; rw [limbs_zero]; rfl
    · rw [limbs_pos (by omega), val, ih (n / 1000000000) (by omega)]; omega
theorem limbs_ok (n : Nat) : Limbs (limbs n) := by
  induction n using Nat.strongRecOn with
  | _ n ih =>
    by_cases h : n = 0
    · subst h; rw [limbs_zero]; intro d hd; simp at hd
    · rw [limbs_pos (by omega)]
      intro d hd
      rw [List.mem_cons] at hd
      rcases hd with rfl | hd
      · omega
      · exact ih (n / 1000000000) (by omega) d hd
theorem limbs_nil {n : Nat} : limbs n = [] ↔ n = 0 := by
  constructor
  · intro h
    have := val_limbs n
    rw [h] at this
    simp [val] at this; omega
  · rintro rfl; exact limbs_zero
theorem limbs_canon (n : Nat) : Canon (limbs n) := by
  refine ⟨limbs_ok n, ?_⟩
  induction n using Nat.strongRecOn with
  | _ n ih =>
    by_cases h : n = 0
    · subst h; rw [limbs_zero]; intro d hd; simp at hd
    · rw [limbs_pos (by omega)]
      intro d hd
      by_cases h2 : n / 1000000000 = 0
      · rw [h2, limbs_zero] at hd
        simp at hd; omega
      · have hne : limbs (n / 1000000000) ≠ [] := fun e => h2 (limbs_nil.1 e)
        rw [List.getLast?_cons_of_ne_nil hne] at hd
        exact ih (n / 1000000000) (by omega) d hd
theorem Limbs.cons {d : Int} {r : List Int} (h : Limbs (d :: r)) : (0 ≤ d ∧ d ≤ 999999999) ∧ Limbs r := ⟨h d (List.mem_cons_self ..), fun x hx => h x (List.mem_cons_of_mem _ hx)⟩
theorem Limbs.nil : Limbs [] := fun d hd => by simp at hd
theorem Limbs.mk {d : Int} {r : List Int} (h : 0 ≤ d ∧ d ≤ 999999999) (hr : Limbs r) : Limbs (d :: r) := fun x hx => by
  rw [List.mem_cons] at hx
  rcases hx with rfl | hx
  · exact h
  · exact hr x hx
theorem Limbs.append {l r : List Int} (h : Limbs l) (hr : Limbs r) : Limbs (l ++ r) := fun x hx => by
  rw [List.mem_append] at hx
  rcases hx with hx | hx
  · exact h x hx
  · exact hr x hx
theorem Limbs.take {l : List Int} (h : Limbs l) (k : Nat) : Limbs (l.take k) := fun x hx => h x (List.mem_of_mem_take hx)
theorem Limbs.drop {l : List Int} (h : Limbs l) (k : Nat) : Limbs (l.drop k) := fun x hx => h x (List.mem_of_mem_drop hx)
theorem val_nonneg {l : List Int} (h : Limbs l) : 0 ≤ val l := by
  induction l with
  | nil => simp [val]
  | cons d r ih =>
    have := ih h.cons.2
    have := h.cons.1
    rw [val]; omega
theorem val_append (l r : List Int) : val (l ++ r) = val l + 1000000000 ^ l.length * val r := by
  induction l with
  | nil => simp [val]
  | cons d l ih =>
    rw [List.cons_append, val, val, ih, List.length_cons, Int.pow_succ, Int.mul_add, Int.add_assoc, ← Int.mul_assoc, Int.mul_comm (1000000000 ^ l.length)]
theorem val_lt {l : List Int} (h : Limbs l) : val l < 1000000000 ^ l.length := by
  induction l with
  | nil => simp [val]
  | cons d r ih =>
    have := ih h.cons.2
    have := h.cons.1
    rw [val, List.length_cons, Int.pow_succ]
    omega
/-- a number has one list of limbs -/
theorem limbs_val {l : List Int} (h : Canon l) : limbs (val l).toNat = l := by
  induction l with
  | nil => simp [val, limbs_zero]
  | cons d r ih =>
    obtain ⟨h1, h2⟩ := h
    have hd := h1.cons.1
    have hr := h1.cons.2
    have hv := val_nonneg hr
    have hcr : Canon r := by
      refine ⟨hr, fun x hx => h2 x ?_⟩
      have hne : r ≠ [] := fun e => by subst e; simp at hx
      rw [List.getLast?_cons_of_ne_nil hne]; exact hx
    have hpos : 0 < (val (d :: r)).toNat := by
      rw [val]
      by_cases hn : r = []
      · subst hn
        have := h2 d (by simp)
        simp [val]; omega
      · have hz : val r ≠ 0 := fun e => by
          have hi := ih hcr
          rw [e] at hi
          simp [limbs_zero] at hi
          exact hn hi
        omega
    rw [limbs_pos hpos]
    have e1 : (val (d :: r)).toNat % 1000000000 = d.toNat := by rw [val]; omega
    have e2 : (val (d :: r)).toNat / 1000000000 = (val r).toNat := by rw [val]; omega
    rw [e1, e2, ih hcr]
    congr 1
    omega
theorem limbs_unique {l : List Int} {n : Nat} (h : Canon l) (hv : val l = n) : l = limbs n := by
  rw [← limbs_val h, hv]; simp
/-- how many limbs a number has -/
theorem limbs_len {n k : Nat} : (limbs n).length ≤ k ↔ n < 1000000000 ^ k := by
  induction k generalizing n with
  | zero =>
    rw [Nat.pow_zero, Nat.le_zero, List.length_eq_zero_iff, limbs_nil]; omega
  | succ k ih =>
    by_cases h : n = 0
    · subst h
      rw [limbs_zero]
      have := Nat.one_le_pow (k + 1) 1000000000 (by omega)
      simp only [List.length_nil]
      constructor <;> intro _ <;> omega
    · rw [limbs_pos (by omega), List.length_cons, Nat.succ_le_succ_iff, ih, Nat.pow_succ]
      omega
theorem Canon.nil : Canon [] := ⟨Limbs.nil, fun d hd => by simp at hd⟩

/-! ### without the zeros at the end -/
def trim (l : List Int) : List Int := (l.reverse.dropWhile (· == 0)).reverse
theorem trim_snoc_zero (l : List Int) : trim (l ++ [0]) = trim l := by simp [trim]
theorem trim_snoc {l : List Int} {d : Int} (h : d ≠ 0) : trim (l ++ [d]) = l ++ [d] := by simp [trim, h]
theorem trim_nil : trim [] = [] := rfl
theorem snoc_cases (l : List Int) : l = [] ∨ ∃ r d, l = r ++ [d] := by
  rcases List.eq_nil_or_concat l with h | ⟨r, d, h⟩
  · exact .inl h
  · exact .inr ⟨r, d, by rw [h, List.concat_eq_append]⟩
theorem trim_prefix (l : List Int) : ∃ k, k ≤ l.length ∧ trim l = l.take k ∧ val (trim l) = val l := by
  suffices H : ∀ n (l : List Int), l.length = n → ∃ k, k ≤ l.length ∧ trim l = l.take k ∧ val (trim l) = val l from H _ l rfl
  intro n
  induction n with
  | zero => intro l hl; have := List.eq_nil_of_length_eq_zero hl; subst this; exact ⟨0, Nat.le_refl _, rfl, rfl⟩
  | succ n ih =>
    intro l hl
    rcases snoc_cases l with rfl | ⟨r, d, rfl⟩
    · simp at hl
    · by_cases hd : d = 0
      · subst hd
        obtain ⟨k, h1, h2, h3⟩ := ih r (by simpa using hl)
        refine ⟨k, by simp; omega, ?_, ?_⟩
        · rw [trim_snoc_zero, h2, List.take_append_of_le_length h1]
        · rw [trim_snoc_zero, h3, val_append]; simp [val]
      · exact ⟨(r ++ [d]).length, Nat.le_refl _, by rw [trim_snoc hd, List.take_length], by rw [trim_snoc hd]⟩
theorem trim_canon {l : List Int} (h : Limbs l) : Canon (trim l) := by
  suffices H : ∀ n (l : List Int), l.length = n → Limbs l → Canon (trim l) from H _ l rfl h
  intro n
  induction n with
  | zero => intro l hl _; have := List.eq_nil_of_length_eq_zero hl; subst this; exact Canon.nil
  | succ n ih =>
    intro l hl h
    rcases snoc_cases l with rfl | ⟨r, d, rfl⟩
    · simp at hl
    · by_cases hd : d = 0
      · subst hd
        rw [trim_snoc_zero]
        exact ih r (by simpa using hl) fun x hx => h x (List.mem_append_left _ hx)
      · rw [trim_snoc hd]
        exact ⟨h, fun x hx => by simp at hx; omega⟩
theorem trim_eq {l : List Int} (h : Limbs l) {n : Nat} (hv : val l = n) : trim l = limbs n := by
  obtain ⟨k, _, _, e⟩ := trim_prefix l
  exact limbs_unique (trim_canon h) (e.trans hv)

/-! ### what the chapter's functions answer -/
/-- is the list a natural number? -/
def natB (l : List Int) : Bool := l.all (fun d => decide (0 ≤ d) && decide (d ≤ 999999999)) && decide (l.length ≤ 60) && (l.getLast? != some 0)
theorem natB_iff (l : List Int) : natB l = true ↔ Canon l ∧ l.length ≤ 60 := by
  simp only [natB, Bool.and_eq_true, List.all_eq_true, decide_eq_true_eq, bne_iff_ne, ne_eq]
  constructor
  · rintro ⟨⟨h1, h2⟩, h3⟩
    exact ⟨⟨h1, fun d hd e => h3 (by rw [hd, e])⟩, h2⟩
  · rintro ⟨⟨h1, h3⟩, h2⟩
    exact ⟨⟨h1, h2⟩, fun e => h3 0 e rfl⟩
/-- the number's limbs if there are few enough, else none -/
def capL (n : Nat) : List Int := if (limbs n).length ≤ 60 then limbs n else []
def natV (l : List Int) : Nat := (val l).toNat
theorem natV_val {l : List Int} (h : natB l = true) : ((natV l : Nat) : Int) = val l := by
  have := val_nonneg ((natB_iff l).1 h).1.1
  rw [natV]; omega
theorem limbs_natV {l : List Int} (h : natB l = true) : limbs (natV l) = l := limbs_val ((natB_iff l).1 h).1
def addL (a b : List Int) : List Int := if natB a && natB b then capL (natV a + natV b) else []
def subL (a b : List Int) : List Int := if natB a && natB b then limbs (natV a - natV b) else []
def mulL (a b : List Int) : List Int := if natB a && natB b then capL (natV a * natV b) else []
def cmpL (a b : List Int) : Int := if natB a && natB b then (if natV a < natV b then -1 else if natV b < natV a then 1 else 0) else 0
def gcdL (a b : List Int) : List Int := if natB a && natB b then limbs (Nat.gcd (natV a) (natV b)) else []
def quoL (a b : List Int) : List Int := if natB a && natB b then limbs (natV a / natV b) else []
def remL (a b : List Int) : List Int := if natB a && natB b && !b.isEmpty then limbs (natV a % natV b) else []

/-! ### order -/
def cmpV (a b : Int) : Int := if a < b then -1 else if b < a then 1 else 0
theorem cmpV_lt {a b : Int} (h : a < b) : cmpV a b = -1 := by rw [cmpV, if_pos h]
theorem cmpV_gt {a b : Int} (h : b < a) : cmpV a b = 1 := by rw [cmpV, if_neg (by omega), if_pos h]
theorem cmpV_eq (a : Int) : cmpV a a = 0 := by rw [cmpV, if_neg (by omega), if_neg (by omega)]
theorem val_top (l : List Int) (d : Int) (r : List Int) : val (l ++ d :: r) = val l + 1000000000 ^ l.length * (d + 1000000000 * val r) := by rw [val_append, val]
theorem pow_cast (k : Nat) : (1000000000 : Int) ^ k = ((1000000000 ^ k : Nat) : Int) := by
  induction k with
  | zero => rfl
  | succ k ih => rw [Int.pow_succ, ih, Nat.pow_succ, Int.natCast_mul]; rfl
theorem pow_pos' (k : Nat) : (0 : Int) < 1000000000 ^ k := Int.pow_pos (by omega)
theorem val_lt_top {l l' r : List Int} {d d' : Int} (hl : Limbs l) (hl' : Limbs l') (he : l.length = l'.length) (h : d < d') : val (l ++ d :: r) < val (l' ++ d' :: r) := by
  rw [val_top, val_top, ← he]
  have h1 := val_lt hl
  have h2 := val_nonneg hl'
  have hp := pow_pos' l.length
  have h3 : 1000000000 ^ l.length * (d + 1000000000 * val r + 1) ≤ 1000000000 ^ l.length * (d' + 1000000000 * val r) := Int.mul_le_mul_of_nonneg_left (by omega) (Int.le_of_lt hp)
  rw [Int.mul_add, Int.mul_one] at h3
  omega
theorem val_ge_canon {l : List Int} (h : Canon l) (h0 : 0 < l.length) : 1000000000 ^ (l.length - 1) ≤ val l := by
  rcases snoc_cases l with rfl | ⟨r, d, rfl⟩
  · simp at h0
  · have hd := h.2 d (by simp)
    have hd0 := (h.1 d (by simp)).1
    have hr := val_nonneg (l := r) fun x hx => h.1 x (List.mem_append_left _ hx)
    rw [val_append]
    have e : (r ++ [d]).length - 1 = r.length := by simp
    have h3 : 1000000000 ^ r.length * 1 ≤ 1000000000 ^ r.length * (val [d]) := Int.mul_le_mul_of_nonneg_left (by simp [val]; omega) (Int.le_of_lt (pow_pos' _))
    rw [e]; omega
theorem val_lt_len {a b : List Int} (ha : Limbs a) (hb : Canon b) (h : a.length < b.length) : val a < val b := by
  have h1 := val_lt ha
  have h2 := val_ge_canon hb (by omega)
  have h3 : (1000000000 : Int) ^ a.length ≤ 1000000000 ^ (b.length - 1) := by
    have := Nat.pow_le_pow_right (n := 1000000000) (by omega) (show a.length ≤ b.length - 1 by omega)
    rw [pow_cast, pow_cast]
    exact Int.ofNat_le.2 this
  omega
end Go.Proofs.YtapjblghnflekaaDoor

/-
  Lists of the call's own, with the stretch of blocks in which they lie: kept while others are written. And the laws' marks on lists of integers, told so.
-/

namespace Go.Proofs.YtapjblghnflekaaDoor
open Go.RowKit
set_option linter.unusedVariables false

/-- the slice value v reads xs, from the head of a cell row of the call's own, in a block from lo up to hi; its spare room may end before the row does -/
def Own (w : World) (lo hi : Nat) (E : TypeId) (v : Value) (n : Nat) (xs : List Value) : Prop :=
  xs.length = n ∧ ((v = .slice none 0 0 ∧ n = 0) ∨ ∃ g c cur, v = .slice (some ⟨g, 0, none⟩) n c ∧ lo ≤ g ∧ g < hi ∧ n ≤ cur.size ∧ cur.size ≤ maxLen ∧ w.heap[g]? = some (.cells cur E (0, 0)) ∧ cur.toList.take n = xs)
/-- block g holds the integers zs, and nothing besides -/
def Blk (w : World) (g : Nat) (E : TypeId) (zs : List Int) : Prop := w.ownsRow g E 1 (.slice (some ⟨g, 0, none⟩) zs.length zs.length) zs.length (iv zs)
/-- outside the blocks from lo up to hi nothing has turned -/
structure Aside (lo hi : Nat) (w w' : World) : Prop where
  os : w'.os = w.os
  tape : w'.tape = w.tape
  output : w'.output = w.output
  size : w.heap.size ≤ w'.heap.size
  block : ∀ k, k < w.heap.size → (k < lo ∨ hi ≤ k) → w'.heap[k]? = w.heap[k]?
section
variable {w w' w'' : World} {lo hi lo' hi' n c B : Nat} {E : TypeId} {v : Value} {xs : List Value} {A : Option Addr}
theorem Own.of_row (h : w.ownsRow lo E 1 v n xs) (hh : w.heap.size ≤ hi) : Own w lo hi E v n xs := by
  refine ⟨by have := h.1; omega, ?_⟩
  rcases h.2 with hn | ⟨g, c, cur, rfl, hbg, hg, hnc, hcm, hcs, ht⟩
  · exact .inl hn
  · have hgs : g < w.heap.size := (Array.getElem?_eq_some_iff.1 hg).1
    exact .inr ⟨g, c, cur, rfl, hbg, by omega, by omega, by omega, hg, by simpa using ht⟩
theorem Own.of (h : w'.ownsRow w.heap.size E 1 v n xs) : Own w' w.heap.size w'.heap.size E v n xs := Own.of_row h (Nat.le_refl _)
theorem Own.nil (w : World) (lo hi : Nat) (E : TypeId) : Own w lo hi E (.slice none 0 0) 0 [] := ⟨rfl, .inl ⟨rfl, rfl⟩⟩
theorem Own.below (h : Own w lo hi E v n xs) (hb : Below B w w') (hh : hi ≤ B) : Own w' lo hi E v n xs := by
  refine ⟨h.1, ?_⟩
  rcases h.2 with hn | ⟨g, c, cur, rfl, hbg, hgh, h1, h2, hg, r⟩
  · exact .inl hn
  · exact .inr ⟨g, c, cur, rfl, hbg, hgh, h1, h2, by rw [hb.block g (by omega)]; exact hg, r⟩
theorem Own.aside (h : Own w lo hi E v n xs) (ha : Aside lo' hi' w w') (hd : hi ≤ lo' ∨ hi' ≤ lo) : Own w' lo hi E v n xs := by
  refine ⟨h.1, ?_⟩
  rcases h.2 with hn | ⟨g, c, cur, rfl, hbg, hgh, h1, h2, hg, r⟩
  · exact .inl hn
  · have hgs : g < w.heap.size := (Array.getElem?_eq_some_iff.1 hg).1
    exact .inr ⟨g, c, cur, rfl, hbg, hgh, h1, h2, by rw [ha.block g hgs (by omega)]; exact hg, r⟩
theorem Own.wider (h : Own w lo hi E v n xs) (hl : lo' ≤ lo) (hh : hi ≤ hi') : Own w lo' hi' E v n xs := by
  refine ⟨h.1, ?_⟩
  rcases h.2 with hn | ⟨g, c, cur, rfl, hbg, hgh, r⟩
  · exact .inl hn
  · exact .inr ⟨g, c, cur, rfl, by omega, by omega, r⟩
theorem Own.len (h : Own w lo hi E v n xs) : xs.length = n := h.1
theorem Own.form (h : Own w lo hi E v n xs) : ∃ A c, v = .slice A n c := by
  rcases h.2 with ⟨rfl, rfl⟩ | ⟨g, c, cur, rfl, _⟩
  · exact ⟨_, _, rfl⟩
  · exact ⟨_, _, rfl⟩
/-- the cut's whole row -/
theorem Own.row (h : Own w lo hi E v n xs) : (v = .slice none 0 0 ∧ n = 0) ∨ ∃ g c ys, v = .slice (some ⟨g, 0, none⟩) n c ∧ lo ≤ g ∧ g < hi ∧ n ≤ ys.length ∧ ys.take n = xs ∧ w.ownsRow g E 1 (.slice (some ⟨g, 0, none⟩) ys.length ys.length) ys.length ys := by
  rcases h.2 with hn | ⟨g, c, cur, rfl, hbg, hgh, h1, h2, hg, r⟩
  · exact .inl hn
  · exact .inr ⟨g, c, cur.toList, rfl, hbg, hgh, by simpa using h1, r, by simp, .inr ⟨g, _, cur, rfl, Nat.le_refl _, hg, Nat.le_refl _, by simpa using h2, by simp, List.take_of_length_le (by simp)⟩⟩
theorem Own.rd (h : Own w lo hi E (.slice A n c) n xs) : Rd w w.heap.size A xs := by
  rcases h.row with ⟨h1, h2⟩ | ⟨g, c', ys, h1, _, _, hl, ht, o⟩
  · subst h2
    exact .inl (List.eq_nil_of_length_eq_zero h.1)
  · injection h1 with h1 _ _
    subst h1
    refine .inr ⟨_, rfl, (o.lt g rfl).2, fun k u hu => o.cells rfl k u ?_⟩
    rw [← ht, List.getElem?_take] at hu
    split at hu
    · exact hu
    · cases hu
theorem Own.rdB (h : Own w lo hi E (.slice A n c) n xs) (hh : hi ≤ B) : Rd w B A xs := by
  rcases h.row with ⟨h1, h2⟩ | ⟨g, c', ys, h1, _, hgh, hl, ht, o⟩
  · subst h2
    exact .inl (List.eq_nil_of_length_eq_zero h.1)
  · injection h1 with h1 _ _
    subst h1
    refine .inr ⟨_, rfl, by show g < B; omega, fun k u hu => o.cells rfl k u ?_⟩
    rw [← ht, List.getElem?_take] at hu
    split at hu
    · exact hu
    · cases hu
theorem Aside.refl (w : World) : Aside lo hi w w := ⟨rfl, rfl, rfl, Nat.le_refl _, fun _ _ _ => rfl⟩
theorem Aside.trans (h : Aside lo hi w w') (k : Aside lo hi w' w'') : Aside lo hi w w'' :=
  ⟨k.os.trans h.os, k.tape.trans h.tape, k.output.trans h.output, Nat.le_trans h.size k.size, fun i hi' hd => (k.block i (by have := h.size; omega) hd).trans (h.block i hi' hd)⟩
theorem Aside.setCell (h : Aside lo hi w w') {a : Addr} (h1 : lo ≤ a.block) (h2 : a.block < hi) (u : Value) : Aside lo hi w (w'.setCell a u) :=
  h.trans ⟨rfl, rfl, rfl, by simp [World.setCell], fun k _ hd => Below.heap_setCell _ _ _ _ (by omega)⟩
theorem Aside.below (h : Aside lo hi w w') (hB : B ≤ lo) (hs : B ≤ w.heap.size) : Below B w w' :=
  ⟨h.os, h.tape, h.output, h.size, fun k hk => h.block k (by omega) (by omega)⟩
end
section
variable {w w' : World} {lo hi lo' hi' B g : Nat} {E : TypeId} {zs : List Int}
theorem Blk.lt (h : Blk w g E zs) : g < w.heap.size := (World.ownsRow.lt h g rfl).2
theorem Blk.le (h : Blk w g E zs) : zs.length ≤ maxLen := by
  rcases h.2 with ⟨h', _⟩ | ⟨g', c', cur, hv, _, _, hnc, hcm, _⟩
  · cases h'
  · omega
theorem Blk.cell (h : Blk w g E zs) {j : Nat} (hj : j < zs.length) : w.cell? ⟨g, j, none⟩ = some (.int .i64 zs[j]) := by
  rw [h.cellAt j (by omega), List.getElem?_eq_getElem (by rw [iv_len]; exact hj), iv_at hj]
theorem Blk.frozen (h : Blk w g E zs) (j : Nat) : w.frozen? ⟨g, j, none⟩ = false := h.frozenAt j
theorem Blk.set (h : Blk w g E zs) (j : Nat) (d : Int) : Blk (w.setCell ⟨g, j, none⟩ (.int .i64 d)) g E (zs.set j d) := by
  have := (h.stored j (.int .i64 d)).1
  unfold Blk
  rwa [List.length_set, show iv (zs.set j d) = (iv zs).set j (.int .i64 d) by simp [iv, List.map_set]]
theorem Blk.aside (h : Blk w g E zs) (ha : Aside lo hi w w') (hd : g < lo ∨ hi ≤ g) : Blk w' g E zs := by
  refine ⟨h.1, ?_⟩
  rcases h.2 with hn | ⟨g', c, cur, hv, hbg, hg, r⟩
  · exact .inl hn
  · have hgs : g' < w.heap.size := (Array.getElem?_eq_some_iff.1 hg).1
    have e : g' = g := by injection hv with hv _ _; injection hv with hv; injection hv with hv; exact hv.symm
    exact .inr ⟨g', c, cur, hv, hbg, by rw [ha.block g' hgs (by omega)]; exact hg, r⟩
theorem Blk.below (h : Blk w g E zs) (hb : Below B w w') (hd : g < B) : Blk w' g E zs := by
  refine ⟨h.1, ?_⟩
  rcases h.2 with hn | ⟨g', c, cur, hv, hbg, hg, r⟩
  · exact .inl hn
  · have e : g' = g := by injection hv with hv _ _; injection hv with hv; injection hv with hv; exact hv.symm
    exact .inr ⟨g', c, cur, hv, hbg, by rw [hb.block g' (by omega)]; exact hg, r⟩
theorem Blk.own (h : Blk w g E zs) (c m : Nat) (hm : m ≤ zs.length) : Own w g (g + 1) E (.slice (some ⟨g, 0, none⟩) m c) m (iv (zs.take m)) := by
  refine ⟨by rw [iv_len, List.length_take]; omega, ?_⟩
  rcases h.2 with ⟨h', _⟩ | ⟨g', c', cur, hv, hbg, hg, hnc, hcm, hcs, ht⟩
  · cases h'
  · have e : g' = g := by injection hv with hv _ _; injection hv with hv; injection hv with hv; exact hv.symm
    subst e
    have hl : iv zs = cur.toList.take zs.length := by simpa using ht.symm
    refine .inr ⟨g', c, cur, rfl, Nat.le_refl _, Nat.lt_succ_self _, by omega, by omega, hg, ?_⟩
    rw [show iv (zs.take m) = (iv zs).take m by simp [iv, List.map_take], hl, List.take_take]
    congr 1; omega
theorem Blk.rd (h : Blk w g E zs) : Rd w (g + 1) (some ⟨g, 0, none⟩) (iv zs) := by
  refine .inr ⟨_, rfl, Nat.lt_succ_self _, fun k u hu => h.cells rfl k u hu⟩
theorem Blk.heap (h : Blk w g E zs) : w.heap[g]? = some (.cells (iv zs).toArray E (0, 0)) := by
  rcases h.2 with ⟨h', _⟩ | ⟨g', c', cur, hv, hbg, hg, hnc, hcm, hcs, ht⟩
  · cases h'
  · have e : g' = g := by injection hv with hv _ _; injection hv with hv; injection hv with hv; exact hv.symm
    have e2 : c' = zs.length := by injection hv with _ _ hv; exact hv.symm
    subst e e2
    have hl : iv zs = cur.toList := by
      rw [← ht, List.take_of_length_le]
      rw [Array.length_toList]; omega
    rw [hg, hl]
theorem Blk.of_heap (h : w.heap[g]? = some (.cells (iv zs).toArray E (0, 0))) (hl : zs.length ≤ maxLen) : Blk w g E zs :=
  ⟨by rw [iv_len]; omega, .inr ⟨g, _, _, rfl, Nat.le_refl _, h, Nat.le_refl _, hl, by simp [iv_len], List.take_of_length_le (by simp [iv_len])⟩⟩
end
theorem Below.aside {w w' : World} {B : Nat} (h : Below B w w') (lo hi : Nat) (hlo : lo ≤ B) (hs : w.heap.size ≤ hi) : Aside lo hi w w' :=
  ⟨h.os, h.tape, h.output, h.size, fun k hk hd => h.block k (by omega)⟩
theorem Aside.wide {w w' : World} {lo hi lo' hi' : Nat} (h : Aside lo hi w w') (h1 : lo' ≤ lo) (h2 : hi ≤ hi') : Aside lo' hi' w w' :=
  ⟨h.os, h.tape, h.output, h.size, fun k hk hd => h.block k hk (by omega)⟩
/-- a list of integers that a function is handed: readable below block B -/
def RdI (w : World) (B : Nat) (A : Option Addr) (n : Nat) (xs : List Int) : Prop := xs.length = n ∧ Rd w B A (iv xs) ∧ n ≤ 1048576 ∧ ∀ d ∈ xs, (Lit.int .i64 d).wf = true
theorem RdI.below {w w' : World} {B : Nat} {A : Option Addr} {n : Nat} {xs : List Int} (h : RdI w B A n xs) (hb : Below B w w') : RdI w' B A n xs := ⟨h.1, h.2.1.below hb, h.2.2⟩
theorem RdI.at_ {w : World} {B : Nat} {A : Option Addr} {n : Nat} {xs : List Int} (h : RdI w B A n xs) {w' : World} {B' : Nat} {A' : Option Addr} (hr : Rd w' B' A' (iv xs)) : RdI w' B' A' n xs := ⟨h.1, hr, h.2.2⟩
theorem IsRow.rdI {w : World} {a : Option Addr} {len cap : Nat} {zs : List Int} (h : IsRow .i64 w a len cap zs) (hl : len ≤ 1048576) : ∃ xs, RdI w w.heap.size a len xs := by
  obtain ⟨h1, h2, _, h3⟩ := h.rd
  exact ⟨zs.take len, h2, h1, hl, h3⟩
end Go.Proofs.YtapjblghnflekaaDoor

/-
  Digits: plain.
-/

namespace Go.Proofs.YtapjblghnflekaaDoor
open Go.RowKit
set_option linter.unusedVariables false



/-! ### plain -/
/-- is the byte a decimal digit? -/
def digB (c : UInt8) : Bool := decide (48 ≤ c.toNat ∧ c.toNat ≤ 57)

def lowB (c : UInt8) : Bool := decide (97 ≤ c.toNat ∧ c.toNat ≤ 122)

/-- at least one byte, all digits -/
def digsB (s : ByteArray) : Bool := decide (0 < s.size ∧ ∀ i (h : i < s.size), digB s[i] = true)

theorem digsB_true {s : ByteArray} (h0 : 0 < s.size) (h : ∀ i (h : i < s.size), digB s[i] = true) : digsB s = true := by
  simp [digsB, h0]; exact h

theorem digsB_bad {s : ByteArray} {i : Nat} (hi : i < s.size) (h : digB s[i] = false) : digsB s = false := by
  simp only [digsB, decide_eq_false_iff_not]
  intro ⟨_, h2⟩
  have := h2 i hi
  rw [h] at this; cases this

theorem digsB_nil {s : ByteArray} (h : s.size = 0) : digsB s = false := by
  simp [digsB, h]
end Go.Proofs.YtapjblghnflekaaDoor

/-
  A natural number's text, in groups of nine digits. Of no program.
-/


namespace Go.Proofs.YtapjblghnflekaaDoor
open Go.RowKit
set_option linter.unusedVariables false

/-- the digit at place i -/
def dg (s : ByteArray) (i : Nat) : Int := if h : i < s.size then (s[i].toNat : Int) - 48 else 0
/-- the number that k digits from place a on tell -/
def numL (s : ByteArray) (a : Nat) : Nat → Int
  | 0 => 0
  | k + 1 => numL s a k * 10 + dg s (a + k)
theorem dg_in {s : ByteArray} {i : Nat} (h : i < s.size) : dg s i = (s[i].toNat : Int) - 48 := dif_pos h
theorem dg_b {s : ByteArray} (hd : ∀ i (h : i < s.size), digB s[i] = true) (i : Nat) : 0 ≤ dg s i ∧ dg s i ≤ 9 := by
  unfold dg
  split
  · rename_i h
    have := hd i h
    simp only [digB, decide_eq_true_eq] at this
    omega
  · omega
theorem numL_b {s : ByteArray} (hd : ∀ i (h : i < s.size), digB s[i] = true) (a k : Nat) : 0 ≤ numL s a k ∧ numL s a k < 10 ^ k := by
  induction k with
  | zero => simp [numL]
  | succ k ih =>
    have := dg_b hd (a + k)
    rw [numL, Int.pow_succ]
    omega
theorem numL_9 {s : ByteArray} (hd : ∀ i (h : i < s.size), digB s[i] = true) (a k : Nat) (hk : k ≤ 9) : 0 ≤ numL s a k ∧ numL s a k ≤ 999999999 := by
  obtain ⟨h1, h2⟩ := numL_b hd a k
  have h3 : (10 : Int) ^ k ≤ 10 ^ 9 := by
    have := Nat.pow_le_pow_right (n := 10) (by omega) hk
    exact_mod_cast this
  omega
/-- the groups of the first e digits, the last group first -/
def parts (s : ByteArray) (e : Nat) : List Int := if h : e = 0 then [] else numL s (e - 9) (e - (e - 9)) :: parts s (e - 9)
  termination_by e
  decreasing_by omega
theorem parts_zero (s : ByteArray) : parts s 0 = [] := by rw [parts]; simp
theorem parts_pos (s : ByteArray) {e : Nat} (h : 0 < e) : parts s e = numL s (e - 9) (e - (e - 9)) :: parts s (e - 9) := by
  rw [parts, dif_neg (by omega)]
theorem parts_len (s : ByteArray) (e k : Nat) (h : e ≤ 9 * k) : (parts s e).length ≤ k := by
  induction k generalizing e with
  | zero => have : e = 0 := by omega
            subst this; rw [parts_zero]; simp
  | succ k ih =>
    by_cases he : e = 0
    · subst he; rw [parts_zero]; simp
    · rw [parts_pos s (by omega), List.length_cons]
      have := ih (e - 9) (by omega)
      omega
/-- is the text a natural number's? -/
def parseB (s : ByteArray) : Bool := digsB s && decide (s.size ≤ 540) && !(decide (1 < s.size) && (dg s 0 == 0))
def parseL (s : ByteArray) : List Int := if parseB s then trim (parts s s.size) else []
theorem parseL_len (s : ByteArray) : (parseL s).length ≤ 1048576 := by
  rw [parseL]
  split
  · rename_i h
    rw [parseB, Bool.and_eq_true, Bool.and_eq_true, decide_eq_true_eq] at h
    obtain ⟨k, h1, h2, _⟩ := trim_prefix (parts s s.size)
    have := parts_len s s.size 60 (by omega)
    rw [h2, List.length_take]; omega
  · simp
theorem digs_all {s : ByteArray} (h : digsB s = true) : 0 < s.size ∧ ∀ i (h : i < s.size), digB s[i] = true := by
  simp only [digsB, decide_eq_true_eq] at h
  exact h
/-- digits of a cut -/
theorem dg_cut (s : ByteArray) (a b i : Nat) (hb : b ≤ s.size) (hi : a + i < b) : dg (s.extract a b) i = dg s (a + i) := by
  have h1 : i < (s.extract a b).size := by rw [ByteArray.size_extract]; omega
  rw [dg_in h1, dg_in (show a + i < s.size by omega), ByteArray.getElem_extract]
theorem numL_cut (s : ByteArray) (a b k : Nat) (hb : b ≤ s.size) (hk : a + k ≤ b) : numL (s.extract a b) 0 k = numL s a k := by
  induction k with
  | zero => rfl
  | succ k ih => rw [numL, numL, ih (by omega), Nat.zero_add, dg_cut s a b k hb (by omega)]
end Go.Proofs.YtapjblghnflekaaDoor

/-
  Small words for naturals and for lists of the call's own: what no function is named in.
-/




namespace Go.Proofs.YtapjblghnflekaaDoor
open Go.RowKit
set_option linter.unusedVariables false

theorem natB_bad {l : List Int} {k : Nat} (hk : k < l.length) (h : ¬ (0 ≤ l[k] ∧ l[k] ≤ 999999999)) : natB l = false := by
  rw [Bool.eq_false_iff]
  intro hb
  exact h (((natB_iff l).1 hb).1.1 _ (List.getElem_mem hk))
theorem natB_long {l : List Int} (h : 60 < l.length) : natB l = false := by
  rw [Bool.eq_false_iff]
  intro hb
  have := ((natB_iff l).1 hb).2
  omega
theorem natB_last {l : List Int} (h0 : 0 < l.length) (h60 : l.length ≤ 60) (hl : Limbs l) : natB l = (l[l.length - 1] != 0) := by
  have hg : l.getLast? = some l[l.length - 1] := by rw [List.getLast?_eq_getElem?, List.getElem?_eq_getElem (by omega)]
  by_cases hz : l[l.length - 1] = 0
  · have : natB l = false := by
      rw [Bool.eq_false_iff]
      intro hb
      exact ((natB_iff l).1 hb).1.2 _ hg hz
    rw [this]; simp [hz]
  · have : natB l = true := (natB_iff l).2 ⟨⟨hl, fun d hd => by rw [hg] at hd; injection hd with hd; omega⟩, h60⟩
    rw [this]; simp [hz]
/-! ### l02Trim -/
theorem trim_take_step {l : List Int} {k : Nat} (hk : k < l.length) (h : l[k] = 0) : trim (l.take (k + 1)) = trim (l.take k) := by
  rw [List.take_succ_eq_append_getElem hk, h, trim_snoc_zero]
theorem trim_take_end {l : List Int} {k : Nat} (hk : k < l.length) (h : l[k] ≠ 0) : trim (l.take (k + 1)) = l.take (k + 1) := by
  rw [List.take_succ_eq_append_getElem hk, trim_snoc h]
/-! ### l02Cap -/
def capT (xs : List Int) : List Int := if (trim xs).length ≤ 60 then trim xs else []
theorem capT_capL {xs : List Int} (h : Limbs xs) {n : Nat} (hv : val xs = n) : capT xs = capL n := by
  rw [capT, capL, trim_eq h hv]
theorem split_at {l : List Int} {j : Nat} (h : j < l.length) : l = l.take j ++ l[j] :: l.drop (j + 1) := by
  rw [← List.drop_eq_getElem_cons h, List.take_append_drop]
theorem cmp_at {xs ys : List Int} {j : Nat} (hx : Limbs xs) (hy : Limbs ys) (h : j < xs.length) (h' : j < ys.length) (hd : xs.drop (j + 1) = ys.drop (j + 1)) (hlt : xs[j] < ys[j]) : val xs < val ys := by
  have e1 := split_at h
  have e2 := split_at h'
  rw [e1, e2, hd]
  exact val_lt_top (hx.take j) (hy.take j) (by rw [List.length_take, List.length_take]; omega) hlt
theorem cmpL_ok {a b : List Int} (ha : natB a = true) (hb : natB b = true) : cmpL a b = cmpV (val a) (val b) := by
  rw [cmpL, ha, hb, cmpV, ← natV_val ha, ← natV_val hb]
  simp
theorem add_step {P va q x y tx ty N : Int} (h : va + P * q = tx + ty) (hN : N = q + x + y) : va + P * (N % 1000000000) + P * 1000000000 * (N / 1000000000) = (tx + P * x) + (ty + P * y) := by
  have e : N % 1000000000 + 1000000000 * (N / 1000000000) = N := by omega
  have e2 : P * (N % 1000000000) + P * 1000000000 * (N / 1000000000) = P * N := by rw [Int.mul_assoc, ← Int.mul_add, e]
  rw [Int.add_assoc, e2, hN, Int.mul_add, Int.mul_add]
  omega
theorem val_take_step (l : List Int) (k : Nat) : val (l.take (k + 1)) = val (l.take k) + 1000000000 ^ k * l.getD k 0 := by
  by_cases h : k < l.length
  · rw [List.take_succ_eq_append_getElem h, val_append, List.length_take, Nat.min_eq_left (by omega), List.getD, List.getElem?_eq_getElem h]
    simp [val]
  · rw [List.take_of_length_le (by omega), List.take_of_length_le (by omega), List.getD, List.getElem?_eq_none (by omega)]
    simp
theorem val_snoc (l : List Int) (d : Int) : val (l ++ [d]) = val l + 1000000000 ^ l.length * d := by rw [val_append]; simp [val]
/-- the sum so far, with the carry behind it -/
def Sum (xs ys acc : List Int) (k : Nat) (q : Int) : Prop := acc.length = k ∧ Limbs acc ∧ val acc + 1000000000 ^ k * q = val (xs.take k) + val (ys.take k)
theorem Sum.next {xs ys acc : List Int} {k : Nat} {q x y N : Int} (h : Sum xs ys acc k q) (hx : xs.getD k 0 = x) (hy : ys.getD k 0 = y) (hN : N = q + x + y) (h0 : 0 ≤ N) : Sum xs ys (acc ++ [N % 1000000000]) (k + 1) (N / 1000000000) := by
  obtain ⟨h1, h2, h3⟩ := h
  refine ⟨by rw [List.length_append, h1]; rfl, h2.append (Limbs.mk (by omega) Limbs.nil), ?_⟩
  have := add_step (P := 1000000000 ^ k) h3 hN
  rw [val_snoc, h1, val_take_step, val_take_step, hx, hy, Int.pow_succ]
  exact this
theorem getD_in {l : List Int} {k : Nat} (h : k < l.length) : l.getD k 0 = l[k] := by rw [List.getD, List.getElem?_eq_getElem h]; rfl
theorem getD_out {l : List Int} {k : Nat} (h : l.length ≤ k) : l.getD k 0 = 0 := by rw [List.getD, List.getElem?_eq_none h]; rfl
theorem addL_ok {a b : List Int} (ha : natB a = true) (hb : natB b = true) {acc : List Int} (hl : Limbs acc) (hv : val acc = val a + val b) : capT acc = addL a b := by
  rw [addL, ha, hb]
  exact capT_capL hl (by rw [hv, ← natV_val ha, ← natV_val hb]; simp)
/-- the difference so far, with what was borrowed -/
def Dif (xs ys acc : List Int) (k : Nat) (q : Int) : Prop := acc.length = k ∧ Limbs acc ∧ val acc - 1000000000 ^ k * q = val (xs.take k) - val (ys.take k)
theorem sub_step {P va q x y tx ty d q' : Int} (h : va - P * q = tx - ty) (hd : d = x - q - y + 1000000000 * q') : va + P * d - P * 1000000000 * q' = (tx + P * x) - (ty + P * y) := by
  have e : P * d - P * 1000000000 * q' = P * (x - q - y) := by rw [hd, Int.mul_add, Int.mul_assoc]; omega
  have e2 : P * (x - q - y) = P * x - P * q - P * y := by rw [Int.mul_sub, Int.mul_sub]
  omega
theorem Dif.next {xs ys acc : List Int} {k : Nat} {q x y d q' : Int} (h : Dif xs ys acc k q) (hx : xs.getD k 0 = x) (hy : ys.getD k 0 = y) (hd : d = x - q - y + 1000000000 * q') (h0 : 0 ≤ d) (h1 : d ≤ 999999999) : Dif xs ys (acc ++ [d]) (k + 1) q' := by
  obtain ⟨g1, g2, g3⟩ := h
  refine ⟨by rw [List.length_append, g1]; rfl, g2.append (Limbs.mk ⟨h0, h1⟩ Limbs.nil), ?_⟩
  have := sub_step (P := 1000000000 ^ k) g3 hd
  rw [val_snoc, g1, val_take_step, val_take_step, hx, hy, Int.pow_succ]
  exact this
theorem Dif.done {xs ys acc : List Int} {q : Int} (h : Dif xs ys acc xs.length q) (hm : ys.length ≤ xs.length) (hq : q = 0 ∨ q = 1) (hle : val ys ≤ val xs) : val acc = val xs - val ys := by
  obtain ⟨g1, g2, g3⟩ := h
  rw [List.take_of_length_le (Nat.le_refl _), List.take_of_length_le hm] at g3
  have hv := val_lt g2
  rw [g1] at hv
  rcases hq with rfl | rfl
  · simp at g3; omega
  · simp at g3; omega
theorem subL_ok {a b : List Int} (ha : natB a = true) (hb : natB b = true) : subL a b = limbs (val a - val b).toNat := by
  rw [subL, ha, hb]
  have h1 := natV_val ha
  have h2 := natV_val hb
  simp only [Bool.and_self, if_true]
  congr 1; omega
theorem cmpV_neg {a b : Int} : decide (cmpV a b < 0) = decide (a < b) := by
  unfold cmpV
  split
  · simp [*]
  · split
    · simp; omega
    · simp; omega
theorem val_set : ∀ (l : List Int) (p : Nat) (d : Int), p < l.length → val (l.set p d) = val l + 1000000000 ^ p * (d - l.getD p 0)
  | [], p, d, h => absurd h (Nat.not_lt_zero _)
  | x :: r, 0, d, _ => by simp [val, List.getD]; omega
  | x :: r, p + 1, d, h => by
    have ih := val_set r p d (by simpa using h)
    rw [List.set_cons_succ, val, ih, val, List.getD_cons_succ, Int.mul_add, Int.pow_succ, Int.mul_comm (1000000000 ^ p) 1000000000, Int.mul_assoc]
    omega
theorem Limbs.set {l : List Int} (h : Limbs l) (p : Nat) {d : Int} (hd : 0 ≤ d ∧ d ≤ 999999999) : Limbs (l.set p d) := fun x hx => by
  rcases List.mem_or_eq_of_mem_set hx with h' | rfl
  · exact h x h'
  · exact hd
theorem getD_set_ne {l : List Int} {p p' : Nat} {d : Int} (h : p ≠ p') : (l.set p d).getD p' 0 = l.getD p' 0 := by
  simp [List.getD, List.getElem?_set_ne h]
/-- the product of the first k limbs of xs with ys -/
def Prd (xs ys zs : List Int) (k : Nat) : Prop := zs.length = xs.length + ys.length ∧ Limbs zs ∧ (∀ p, k + ys.length ≤ p → zs.getD p 0 = 0) ∧ val zs = val (xs.take k) * val ys
/-- .. and of limb k with the first j limbs of ys, the carry q behind it -/
def Prt (xs ys zs : List Int) (k j : Nat) (x q : Int) : Prop := zs.length = xs.length + ys.length ∧ Limbs zs ∧ (∀ p, k + ys.length ≤ p → zs.getD p 0 = 0) ∧ val zs + 1000000000 ^ (k + j) * q = val (xs.take k) * val ys + 1000000000 ^ k * (x * val (ys.take j))
theorem mul_step {P V q o x y N R : Int} (h : V + P * q = R) (hN : N = o + x * y + q) : V + P * (N % 1000000000 - o) + P * 1000000000 * (N / 1000000000) = R + P * (x * y) := by
  have e : N % 1000000000 + 1000000000 * (N / 1000000000) = N := by omega
  have e2 : P * (N % 1000000000 - o) + P * 1000000000 * (N / 1000000000) = P * (N - o) := by
    rw [Int.mul_assoc, ← Int.mul_add]; congr 1; omega
  rw [Int.add_assoc, e2, show N - o = x * y + q by omega, Int.mul_add]
  omega
theorem Prt.next {xs ys zs : List Int} {k j : Nat} {x q y o N : Int} (h : Prt xs ys zs k j x q) (hj : j < ys.length) (hk : k < xs.length) (hy : ys.getD j 0 = y) (ho : zs.getD (k + j) 0 = o) (hN : N = o + x * y + q) (h0 : 0 ≤ N) :
    Prt xs ys (zs.set (k + j) (N % 1000000000)) k (j + 1) x (N / 1000000000) := by
  obtain ⟨g1, g2, g3, g4⟩ := h
  refine ⟨by rw [List.length_set]; exact g1, g2.set _ (by omega), fun p hp => by rw [getD_set_ne (by omega)]; exact g3 p hp, ?_⟩
  have := mul_step (P := 1000000000 ^ (k + j)) g4 hN
  rw [val_set _ _ _ (by omega), ho, val_take_step, hy, ← Nat.add_assoc, Int.pow_succ, this, Int.mul_add, Int.mul_add, Int.add_assoc]
  congr 2
  rw [Int.pow_add, Int.mul_assoc]
  congr 1
  rw [← Int.mul_assoc, Int.mul_comm (1000000000 ^ j) x, Int.mul_assoc]
theorem Prt.done {xs ys zs : List Int} {k : Nat} {x q : Int} (h : Prt xs ys zs k ys.length x q) (hk : k < xs.length) (hx : xs.getD k 0 = x) (hq : 0 ≤ q ∧ q ≤ 999999999) : Prd xs ys (zs.set (k + ys.length) q) (k + 1) := by
  obtain ⟨g1, g2, g3, g4⟩ := h
  have hz := g3 (k + ys.length) (Nat.le_refl _)
  refine ⟨by rw [List.length_set]; exact g1, g2.set _ hq, fun p hp => by rw [getD_set_ne (by omega)]; exact g3 p (by omega), ?_⟩
  rw [val_set _ _ _ (by omega), hz, Int.sub_zero, g4, List.take_of_length_le (Nat.le_refl _), val_take_step, hx, Int.add_mul, Int.mul_assoc]
theorem Prd.part {xs ys zs : List Int} {k : Nat} {x : Int} (h : Prd xs ys zs k) : Prt xs ys zs k 0 x 0 := by
  obtain ⟨g1, g2, g3, g4⟩ := h
  exact ⟨g1, g2, g3, by simp [val, g4]⟩
theorem iv_set (zs : List Int) (p : Nat) (d : Int) : (iv zs).set p (.int .i64 d) = iv (zs.set p d) := by simp [iv, List.map_set]
theorem own_int {w : World} {base g n c j : Nat} {E : TypeId} {zs : List Int} (h : w.ownsRow base E 1 (.slice (some ⟨g, 0, none⟩) n c) n (iv zs)) (hj : j < n) : w.cell? ⟨g, j, none⟩ = some (.int .i64 (zs.getD j 0)) := by
  have hz : zs.length = n := by have := h.1; rw [iv_len] at this; omega
  rw [h.cellAt j (by omega)]
  simp [iv, List.getD, List.getElem?_eq_getElem (show j < zs.length by omega)]
theorem mulL_ok {a b : List Int} (ha : natB a = true) (hb : natB b = true) : capT (limbs (val a * val b).toNat) = mulL a b := by
  rw [mulL, ha, hb, capT_capL (limbs_ok _) (val_limbs _)]
  have h1 := natV_val ha
  have h2 := natV_val hb
  have e : (val a * val b).toNat = natV a * natV b := by rw [← h1, ← h2, ← Int.natCast_mul]; rfl
  rw [e]; simp
def natIntOk (l : List Int) : Bool := natB l && decide (val l ≤ 9223372036854775807)
def natInt (l : List Int) : Int := if natIntOk l then val l else 0
theorem val_drop {l : List Int} {j : Nat} (h : j < l.length) : val (l.drop j) = l[j] + 1000000000 * val (l.drop (j + 1)) := by
  rw [List.drop_eq_getElem_cons h, val]
theorem val_drop_le {l : List Int} (h : Limbs l) (j : Nat) : val (l.drop j) ≤ val l := by
  have e : val l = val (l.take j) + 1000000000 ^ (l.take j).length * val (l.drop j) := by rw [← val_append, List.take_append_drop]
  have h1 := val_nonneg (h.take j)
  have h2 := val_nonneg (h.drop j)
  have hp := pow_pos' (l.take j).length
  have h3 : 1 * val (l.drop j) ≤ 1000000000 ^ (l.take j).length * val (l.drop j) := Int.mul_le_mul_of_nonneg_right (by omega) h2
  omega
def maxL : List Int := [854775807, 223372036, 9]
theorem maxL_canon : Canon maxL := ⟨fun d hd => by simp [maxL] at hd; omega, fun d hd => by simp [maxL] at hd; omega⟩
theorem maxL_val : val maxL = 9223372036854775807 := by simp [maxL, val]
theorem ret_pair {n m : Int} {a b : Bool} (h1 : n = m) (h2 : a = b) : Ending.returned (.tuple #[.int .i64 n, .bool a]) = .returned (.tuple #[.int .i64 m, .bool b]) := by rw [h1, h2]
theorem ret_si {v v' : Value} {a b : Int} (h1 : v = v') (h2 : a = b) : Ending.returned (.tuple #[v, .int .i64 a]) = .returned (.tuple #[v', .int .i64 b]) := by rw [h1, h2]
theorem own_trim {w : World} {g : Nat} {E : TypeId} {xs : List Int} {m : Nat} (h : Blk w g E xs) (hm : m ≤ xs.length) (ht : trim xs = xs.take m) : w.ownsRow g E 1 (.slice (some ⟨g, 0, none⟩) m xs.length) (trim xs).length (iv (trim xs)) := by
  have := own_cut h hm
  rw [ht, List.length_take, Nat.min_eq_left hm, show iv (xs.take m) = (iv xs).take m by simp [iv, List.map_take]]
  exact this
theorem run_append_nilc {P : Program} {w : World} (base : Nat) (t ty e : TypeId) (i : TypeInfo) (size : Nat) (ht : P.underlying t = some (.slice e)) (hi : P.info? e = some i) (v : Value) (n : Nat) (xs : List Value) (hown : w.ownsRow base e size v n xs) (c : Nat) :
    (Builtin.append_ #[t, t] ty #[v, .slice none 0 c]).run P w = .ok v w := by
  rcases hown.2 with ⟨rfl, _⟩ | ⟨g, c', cur, rfl, _, hg, hnc, _⟩
  · simp [Builtin.append_, run_underlying ht, sizeOf, typeInfo, hi, Builtin.lenOf, Builtin.firstCells]
  · simp [Builtin.append_, run_underlying ht, sizeOf, typeInfo, hi, Builtin.lenOf, Builtin.firstCells, hnc, storeCells]
/-- append of a list that can be read, to a row of the call's own -/
theorem wpList_append_rd {P : Program} {t e : TypeId} {size bytes : Nat} (T : SliceOf P t e size bytes) (hone : size = 1) {ops : Array Oper} {rest : List Oper} {o : Oper} {a : Act} {Q : Exit → Act → World → Prop}
    (hgd : o.guard = none) (s x : Operand) (ho : o.op = .call { callee := .builtin .append, args := #[s, x], argTypes := #[t, t] })
    (W : World) (base : Nat) (v : Value) (n : Nat) (xs : List Value) (hown : W.ownsRow base e size v n xs) (hs : a.eval s = v)
    (B : Nat) (A : Option Addr) (m c : Nat) (news : List Value) (hx : a.eval x = .slice A m c) (hl : news.length = m) (R : Rd W B A news) (h1 : ∀ u ∈ news, u.oneCell' = true)
    (h63 : n + m ≤ maxLen) (hn : (n + m) * bytes ≤ 140737488355328) (hbase : base ≤ W.heap.size)
    (h : ∀ v' w', w'.ownsRow base e size v' (n + m) (xs ++ news) → Below base W w' → wpList P ops Q rest (a.put o.dst v') w') :
    wpList P ops Q (o :: rest) a W := by
  obtain ⟨ht, i, z, hi, hz, hsize, hby, hzs, hsz⟩ := T
  cases A with
  | none =>
    have hnil : news = [] := by
      rcases R with e | ⟨ad, e, _⟩
      · exact e
      · cases e
    subst hnil
    have hm : m = 0 := by simpa using hl.symm
    subst hm
    refine wpList_plain hgd fun K hK => ?_
    have hrun := run_append_nilc (P := P) (w := W) base t o.type e i size ht hi v n xs hown c
    unfold Oper.wp
    simp [execOp, ho, resolve, invoke, builtin, hs, hx, hrun, Result.andThen]
    exact hK _ _ (h v W (by simpa using hown) (Below.refl _ _))
  | some ad =>
    refine wpList_append_own W hgd s x t ho base e i z size bytes ht hi hz hsize hby hzs hsz v n xs hs hown ad m c news hx (by subst hone; omega) ?_ h1 h63 hn hbase ?_
    · intro j u hu
      rcases R with e | ⟨ad', e, _, hc⟩
      · subst e; simp at hu
      · injection e with e; subst e; exact hc j u hu
    · intro v' w' hown' hgrow _
      exact h v' w' hown' ((Below.refl base W).grown hgrow hbase fun k hk => (hown.lt k hk).1)
theorem own_one (w : World) (E : TypeId) (u : Value) : (w.alloc (.cells #[u] E)).ownsRow w.heap.size E 1 (.slice (some ⟨w.heap.size, 0, none⟩) 1 1) 1 [u] :=
  ⟨rfl, .inr ⟨w.heap.size, 1, #[u], rfl, Nat.le_refl _, by show (w.heap.push _)[w.heap.size]? = _; rw [Array.getElem?_push_size], Nat.le_refl _, by unfold maxLen; omega, rfl, rfl⟩⟩
theorem own_aside {w w' : World} {base lo hi n : Nat} {E : TypeId} {v : Value} {xs : List Value} (h : w.ownsRow base E 1 v n xs) (ha : Aside lo hi w w') (hd : hi ≤ base) : w'.ownsRow base E 1 v n xs := by
  refine ⟨h.1, ?_⟩
  rcases h.2 with hn | ⟨g, c, cur, rfl, hbg, hg, r⟩
  · exact .inl hn
  · have hgs : g < w.heap.size := (Array.getElem?_eq_some_iff.1 hg).1
    exact .inr ⟨g, c, cur, rfl, hbg, by rw [ha.block g hgs (by omega)]; exact hg, r⟩
theorem own_nilcap {w : World} {base n c : Nat} {e : TypeId} {A : Option Addr} {xs : List Value} (h : w.ownsRow base e 1 (.slice A n c) n xs) : (A = none → c = 0) ∧ n ≤ c ∧ c ≤ maxLen := by
  rcases h.2 with ⟨h1, h2⟩ | ⟨g, c', cur, hv, _, _, hnc, hcm, _⟩
  · injection h1 with e1 e2 e3; subst e3; exact ⟨fun _ => rfl, by omega, by unfold maxLen; omega⟩
  · injection hv with e1 e2 e3; subst e3; exact ⟨(fun h => by rw [h] at e1; cases e1), hnc, hcm⟩
theorem iv_one (xs : List Int) : ∀ u ∈ iv xs, u.oneCell' = true := fun u hu => by
  obtain ⟨d, _, rfl⟩ := List.mem_map.1 hu; rfl
theorem own_trimR {w : World} {base n c m : Nat} {E : TypeId} {A : Option Addr} {xs : List Int} (h : w.ownsRow base E 1 (.slice A n c) n (iv xs)) (hm : m ≤ n) (ht : trim xs = xs.take m) : w.ownsRow base E 1 (.slice A m c) (trim xs).length (iv (trim xs)) := by
  have hl : xs.length = n := by have := h.1; rw [iv_len] at this; omega
  have e : (trim xs).length = m := by rw [ht, List.length_take]; omega
  rw [e]
  rw [ht, show iv (xs.take m) = (iv xs).take m by simp [iv, List.map_take]]
  rcases own_form h with ⟨h', h0, hx0⟩ | ⟨g, c', h', _, _⟩
  · injection h' with h1 h2 h3
    subst h1 h3
    obtain rfl : m = 0 := by omega
    exact World.ownsRow_nil _ _ _ _
  · injection h' with h1 h2 h3
    subst h1 h3
    exact own_cut h hm
/-- two lists of the call's own, in stretches apart -/
def Two (w w' : World) (E : TypeId) (v1 : Value) (xs : List Int) (v2 : Value) (ys : List Int) : Prop :=
  ∃ l1 h1 l2 h2, Own w' l1 h1 E v1 xs.length (iv xs) ∧ Own w' l2 h2 E v2 ys.length (iv ys) ∧ w.heap.size ≤ l1 ∧ w.heap.size ≤ l2 ∧ h1 ≤ w'.heap.size ∧ h2 ≤ w'.heap.size ∧ (h1 ≤ l2 ∨ h2 ≤ l1)
theorem ret_vv {a b c d : Value} (h1 : a = b) (h2 : c = d) : Ending.returned (.tuple #[a, c]) = .returned (.tuple #[b, d]) := by rw [h1, h2]
theorem two_nil (w : World) (E : TypeId) : Two w w E (.slice none 0 0) [] (.slice none 0 0) [] :=
  ⟨w.heap.size, w.heap.size, w.heap.size, w.heap.size, Own.nil _ _ _ _, Own.nil _ _ _ _, Nat.le_refl _, Nat.le_refl _, Nat.le_refl _, Nat.le_refl _, .inl (Nat.le_refl _)⟩
theorem natV_limbs (n : Nat) : natV (limbs n) = n := by rw [natV, val_limbs]; simp
theorem natB_limbs {n : Nat} (h : n < 1000000000 ^ 60) : natB (limbs n) = true := (natB_iff _).2 ⟨limbs_canon n, limbs_len.2 h⟩
theorem RdI.of_own {w : World} {lo hi n c : Nat} {E : TypeId} {A : Option Addr} {xs : List Int} (o : Own w lo hi E (.slice A n c) n (iv xs)) (hl : n ≤ 1048576) (hw : Limbs xs) : RdI w w.heap.size A n xs :=
  ⟨by have := o.len; rwa [iv_len] at this, o.rd, hl, fun d hd => by have := hw d hd; exact WalkArith.wf_i64 ⟨by omega, by omega⟩⟩
theorem natInt_small {n : Nat} (h : (limbs n).length < 3) : natInt (limbs n) = n ∧ natIntOk (limbs n) = true ∧ n ≤ 999999999999999999 := by
  have h2 : n < 1000000000 ^ 2 := limbs_len.1 (by omega)
  have h3 : n ≤ 999999999999999999 := by omega
  have hok : natIntOk (limbs n) = true := by
    rw [natIntOk, natB_limbs (Nat.lt_of_lt_of_le h2 (Nat.pow_le_pow_right (by omega) (by omega))), val_limbs]
    simp; omega
  exact ⟨by rw [natInt, hok, val_limbs]; simp, hok, h3⟩
theorem iv_inj {xs ys : List Int} (h : iv xs = iv ys) : xs = ys := by
  have : ∀ (a b : List Int), iv a = iv b → a = b := by
    intro a
    induction a with
    | nil => intro b hb; cases b with
      | nil => rfl
      | cons y r => simp [iv] at hb
    | cons x a ih => intro b hb; cases b with
      | nil => simp [iv] at hb
      | cons y r =>
        simp only [iv, List.map_cons, List.cons.injEq, Value.int.injEq, true_and] at hb
        rw [hb.1, ih r hb.2]
  exact this xs ys h
theorem Own.uniq {w : World} {lo hi n m : Nat} {E : TypeId} {v : Value} {xs ys : List Value} (a : Own w lo hi E v n xs) (b : Own w lo hi E v m ys) : xs = ys := by
  have la := a.1
  have lb := b.1
  rcases a.2 with ⟨h1, h2⟩ | ⟨g, c, cur, hv, _, _, _, _, hg, r⟩
  · rcases b.2 with ⟨_, h4⟩ | ⟨g', c', cur', hv', _⟩
    · rw [List.eq_nil_of_length_eq_zero (la.trans h2), List.eq_nil_of_length_eq_zero (lb.trans h4)]
    · rw [h1] at hv'; cases hv'
  · rcases b.2 with ⟨h3, _⟩ | ⟨g', c', cur', hv', _, _, _, _, hg', r'⟩
    · rw [h3] at hv; cases hv
    · rw [hv] at hv'
      injection hv' with e1 e2 e3
      injection e1 with e1; injection e1 with e1
      subst e1 e2
      rw [hg] at hg'
      injection hg' with hg'; injection hg' with hg'
      subst hg'
      rw [← r, ← r']
theorem limbs_inj {a b : Nat} (h : limbs a = limbs b) : a = b := by rw [← natV_limbs a, h, natV_limbs]
/-- the number that a list of the call's own holds -/
noncomputable def numOf (lo : Nat) (E : TypeId) (v : Value) (w : World) : Nat :=
  open Classical in if h : ∃ Y, Own w lo w.heap.size E v (limbs Y).length (iv (limbs Y)) then Classical.choose h else 0
theorem numOf_eq {lo : Nat} {E : TypeId} {v : Value} {w : World} {Y : Nat} (h : Own w lo w.heap.size E v (limbs Y).length (iv (limbs Y))) : numOf lo E v w = Y := by
  unfold numOf
  have he : ∃ Y, Own w lo w.heap.size E v (limbs Y).length (iv (limbs Y)) := ⟨Y, h⟩
  rw [dif_pos he]
  exact limbs_inj (iv_inj ((Classical.choose_spec he).uniq h))
theorem gcdL_ok {a b : List Int} (ha : natB a = true) (hb : natB b = true) : limbs (Nat.gcd (natV a) (natV b)) = gcdL a b := by rw [gcdL, ha, hb]; rfl
theorem ret_vb {v v' : Value} {a b : Bool} (h1 : v = v') (h2 : a = b) : Ending.returned (.tuple #[v, .bool a]) = .returned (.tuple #[v', .bool b]) := by rw [h1, h2]
theorem parse_no {s : ByteArray} (h : parseB s = false) : parseL s = [] := by rw [parseL, h]; rfl
theorem own_nilcap' {w : World} {base n c : Nat} {e : TypeId} {A : Option Addr} {xs : List Value} (h : w.ownsRow base e 1 (.slice A n c) n xs) : (A = none → c = 0) ∧ n ≤ c ∧ c ≤ maxLen := by
  rcases h.2 with ⟨h1, h2⟩ | ⟨g, c', cur, hv, _, _, hnc, hcm, _⟩
  · injection h1 with e1 e2 e3; subst e3; exact ⟨fun _ => rfl, by omega, by unfold maxLen; omega⟩
  · injection hv with e1 e2 e3; subst e3; exact ⟨(fun h => by rw [h] at e1; cases e1), hnc, hcm⟩
theorem own_trimQ {w : World} {base n c m : Nat} {E : TypeId} {A : Option Addr} {xs : List Int} (h : w.ownsRow base E 1 (.slice A n c) n (iv xs)) (hm : m ≤ n) (ht : trim xs = xs.take m) : w.ownsRow base E 1 (.slice A m c) (trim xs).length (iv (trim xs)) := by
  have hl : xs.length = n := by have := h.1; rw [iv_len] at this; omega
  have e : (trim xs).length = m := by rw [ht, List.length_take]; omega
  rw [e]
  rw [ht, show iv (xs.take m) = (iv xs).take m by simp [iv, List.map_take]]
  rcases own_form h with ⟨h', h0, hx0⟩ | ⟨g, c', h', _, _⟩
  · injection h' with h1 h2 h3
    subst h1 h3
    obtain rfl : m = 0 := by omega
    exact World.ownsRow_nil _ _ _ _
  · injection h' with h1 h2 h3
    subst h1 h3
    exact own_cut h hm
end Go.Proofs.YtapjblghnflekaaDoor
