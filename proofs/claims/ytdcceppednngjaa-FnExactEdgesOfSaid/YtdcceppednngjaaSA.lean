/-
  The texts ScnM, ScnL, ScnL2, put together; each has its own heading below. No condition of ours.
-/
import Derived.Test.YtdcceppednngjaaVecL2
/-
  Lists of lists of vectors, and scenes, in memory: what is readable, what is the call's own.
-/

namespace Go.Proofs.Ytdcceppednngjaa
open Go.RowKit
set_option linter.unusedVariables false

theorem Try.infoVecS : (Try.prog.info? 63).map (fun i => (i.zero, i.size, i.bytes)) = some (some (.slice none 0 0), 1, 24) := by kernel_rfl
/-- a list of vectors as a slice value: its head, its spare room, what it reads -/
structure Sl where
  a : Option Addr
  c : Nat
  vs : List V2
def Sl.v (s : Sl) : Value := .slice s.a s.vs.length s.c
/-- the slices of a list, as cells -/
def slv (ss : List Sl) : List Value := ss.map Sl.v
def cont (ss : List Sl) : List (List V2) := ss.map Sl.vs
section
variable {ss tt : List Sl} {k : Nat}
theorem slv_len (ss : List Sl) : (slv ss).length = ss.length := by simp [slv]
theorem cont_len (ss : List Sl) : (cont ss).length = ss.length := by simp [cont]
theorem slv_at (h : k < ss.length) : (slv ss)[k]'(by rw [slv_len]; exact h) = ss[k].v := by simp [slv]
theorem cont_at (h : k < ss.length) : (cont ss)[k]'(by rw [cont_len]; exact h) = ss[k].vs := by simp [cont]
theorem slv_take (ss : List Sl) (k : Nat) : slv (ss.take k) = (slv ss).take k := by simp [slv, List.map_take]
theorem slv_drop (ss : List Sl) (k : Nat) : slv (ss.drop k) = (slv ss).drop k := by simp [slv, List.map_drop]
theorem slv_append (ss tt : List Sl) : slv (ss ++ tt) = slv ss ++ slv tt := by simp [slv]
end
/-- a list of lists that can be read below block B -/
def RdS (w : World) (B : Nat) (A : Option Addr) (n : Nat) (ss : List Sl) : Prop :=
  ss.length = n ∧ Rd w B A (slv ss) ∧ n ≤ 2097152 ∧ ∀ s ∈ ss, RdV w B s.a s.vs.length s.vs
section
variable {w w' : World} {B B' : Nat} {A : Option Addr} {n k : Nat} {ss : List Sl}
theorem RdS.below (h : RdS w B A n ss) (hb : Below B w w') : RdS w' B A n ss := ⟨h.1, h.2.1.below hb, h.2.2.1, fun s hs => (h.2.2.2 s hs).below hb⟩
theorem RdS.wider (h : RdS w B A n ss) (hB : B ≤ B') : RdS w B' A n ss := ⟨h.1, h.2.1.wider hB, h.2.2.1, fun s hs => (h.2.2.2 s hs).wider hB⟩
theorem RdS.up (h : RdS w w.heap.size A n ss) (hb : Below w.heap.size w w') : RdS w' w'.heap.size A n ss := (h.below hb).wider hb.size
theorem Rd.sl (h : Rd w B A (slv ss)) (hk : k < ss.length) : ∃ ad, A = some ad ∧ ad.block < B ∧ w.cell? (ad.add k) = some (.slice ss[k].a ss[k].vs.length ss[k].c) := by
  obtain ⟨ad, h1, h2, h3⟩ := h.at_ (k := k) (by rw [slv_len]; exact hk)
  exact ⟨ad, h1, h2, by rw [h3, slv_at hk]; rfl⟩
theorem Rd.takeX {xs : List Value} (h : Rd w B A xs) (k : Nat) : Rd w B A (xs.take k) := by
  rcases h with rfl | ⟨ad, e, hb, hc⟩
  · exact .inl (by simp)
  · refine .inr ⟨ad, e, hb, fun j u hu => hc j u ?_⟩
    rw [List.getElem?_take] at hu
    split at hu
    · exact hu
    · cases hu
theorem Rd.dropX {ad : Addr} {xs : List Value} (h : Rd w B (some ad) xs) (k : Nat) : Rd w B (some (ad.add k)) (xs.drop k) := by
  rcases h with rfl | ⟨ad', e, hb, hc⟩
  · exact .inl (by simp)
  · injection e with e
    subst e
    refine .inr ⟨_, rfl, by rw [add_block]; exact hb, fun j u hu => ?_⟩
    rw [List.getElem?_drop] at hu
    have := hc _ u hu
    rw [← this]
    unfold Addr.add
    by_cases h1 : k = 0
    · rw [if_pos h1, h1, Nat.zero_add]
    · rw [if_neg h1]
      by_cases h2 : j = 0
      · rw [if_pos h2, h2, Nat.add_zero, if_neg h1]
      · rw [if_neg h2, if_neg (by omega), Nat.add_assoc]
theorem RdS.take (h : RdS w B A n ss) {k : Nat} (hk : k ≤ n) : RdS w B A k (ss.take k) :=
  ⟨by rw [List.length_take]; have := h.1; omega, by rw [slv_take]; exact h.2.1.takeX k, by have := h.2.2.1; omega, fun s hs => h.2.2.2 s (List.mem_of_mem_take hs)⟩
theorem RdS.drop {ad : Addr} (h : RdS w B (some ad) n ss) {k : Nat} (hk : k ≤ n) : RdS w B (some (ad.add k)) (n - k) (ss.drop k) :=
  ⟨by rw [List.length_drop]; have := h.1; omega, by rw [slv_drop]; exact h.2.1.dropX k, by have := h.2.2.1; omega, fun s hs => h.2.2.2 s (List.mem_of_mem_drop hs)⟩
end

/-- a row of slices of the call's own, in a block from lo up to hi -/
def OwnR (w : World) (lo hi : Nat) (E : TypeId) (v : Value) (n : Nat) (ss : List Sl) : Prop := w.ownsRow lo E 1 v n (slv ss) ∧ ∀ g, v.ownBlock = some g → g < hi
section
variable {w w' : World} {lo hi lo' hi' n c B : Nat} {E : TypeId} {v : Value} {ss : List Sl} {A : Option Addr}
theorem OwnR.of (h : w'.ownsRow w.heap.size E 1 v n (slv ss)) : OwnR w' w.heap.size w'.heap.size E v n ss := ⟨h, fun g hg => (h.lt g hg).2⟩
theorem OwnR.of_row (h : w.ownsRow lo E 1 v n (slv ss)) (hh : w.heap.size ≤ hi) : OwnR w lo hi E v n ss := ⟨h, fun g hg => Nat.lt_of_lt_of_le (h.lt g hg).2 hh⟩
theorem OwnR.nil (w : World) (lo hi : Nat) (E : TypeId) : OwnR w lo hi E (.slice none 0 0) 0 [] := ⟨World.ownsRow_nil _ _ _ _, fun g hg => by simp [Value.ownBlock] at hg⟩
theorem OwnR.len (h : OwnR w lo hi E v n ss) : ss.length = n := by
  have := h.1.1
  rw [slv_len] at this; omega
theorem OwnR.below (h : OwnR w lo hi E v n ss) (hb : Below B w w') (hh : hi ≤ B) : OwnR w' lo hi E v n ss := ⟨own_below h.1 hb fun g hg => Nat.lt_of_lt_of_le (h.2 g hg) hh, h.2⟩
theorem ownsRow_kept {base size : Nat} {xs : List Value} (h : w.ownsRow base E size v n xs) (hk : ∀ g, v.ownBlock = some g → w'.heap[g]? = w.heap[g]?) : w'.ownsRow base E size v n xs := by
  refine ⟨h.1, ?_⟩
  rcases h.2 with hn | ⟨g, c, cur, rfl, hbg, hg, r⟩
  · exact .inl hn
  · exact .inr ⟨g, c, cur, rfl, hbg, by rw [hk g rfl]; exact hg, r⟩
theorem OwnR.kept (h : OwnR w lo hi E v n ss) (hk : ∀ g, v.ownBlock = some g → w'.heap[g]? = w.heap[g]?) : OwnR w' lo hi E v n ss := ⟨ownsRow_kept h.1 hk, h.2⟩
theorem OwnV.kept {vs : List V2} (h : OwnV w lo hi E v n vs) (hk : ∀ g, v.ownBlock = some g → w'.heap[g]? = w.heap[g]?) : OwnV w' lo hi E v n vs := ⟨ownsRow_kept h.1 hk, h.2⟩
theorem OwnR.aside (h : OwnR w lo hi E v n ss) (ha : Aside lo' hi' w w') (hd : hi ≤ lo' ∨ hi' ≤ lo) : OwnR w' lo hi E v n ss :=
  h.kept fun g hg => ha.block g (h.1.lt g hg).2 (by have := (h.1.lt g hg).1; have := h.2 g hg; omega)
theorem OwnR.wider (h : OwnR w lo hi E v n ss) (hl : lo' ≤ lo) (hh : hi ≤ hi') : OwnR w lo' hi' E v n ss := ⟨own_lower h.1 hl, fun g hg => Nat.lt_of_lt_of_le (h.2 g hg) hh⟩
theorem OwnR.form (h : OwnR w lo hi E v n ss) : ∃ A c, v = .slice A n c := by
  rcases h.1.2 with ⟨rfl, rfl⟩ | ⟨g, c, cur, rfl, _⟩
  · exact ⟨_, _, rfl⟩
  · exact ⟨_, _, rfl⟩
theorem OwnR.rdB (h : OwnR w lo hi E (.slice A n c) n ss) (hh : hi ≤ B) : Rd w B A (slv ss) := by
  rcases h.1.2 with ⟨hv, hn⟩ | ⟨g, c', cur, hv, hbg, hg, hnc, hcm, r⟩
  · left
    have := h.len
    rw [List.eq_nil_of_length_eq_zero (by omega : ss.length = 0)]; rfl
  · injection hv with e1 e2 e3
    subst e1
    exact .inr ⟨_, rfl, Nat.lt_of_lt_of_le (h.2 g rfl) hh, h.1.cells (g := g) rfl⟩
theorem OwnR.cap (h : OwnR w lo hi E (.slice A n c) n ss) : n ≤ c ∧ c ≤ maxLen := by
  rcases h.1.2 with ⟨hv, hn⟩ | ⟨g, c', cur, hv, hbg, hg, hnc, hcm, r⟩
  · injection hv with _ _ hv
    subst hn; subst hv
    exact ⟨Nat.le_refl _, Nat.zero_le _⟩
  · injection hv with _ _ hv
    subst hv
    exact ⟨hnc, hcm⟩
end
/-- the blocks in which the lists lie -/
def blks (v : Value) (ss : List Sl) : List Nat := v.ownBlock.toList ++ ss.filterMap fun s => s.v.ownBlock
/-- lists of vectors of the call's own, and the row of them, each in a block of its own from lo up to hi -/
def OwnSS (w : World) (lo hi : Nat) (ES EV : TypeId) (v : Value) (n : Nat) (ss : List Sl) : Prop :=
  OwnR w lo hi ES v n ss ∧ (∀ s ∈ ss, OwnV w lo hi EV s.v s.vs.length s.vs) ∧ (blks v ss).Nodup
section
variable {w w' : World} {lo hi lo' hi' n c B : Nat} {ES EV : TypeId} {v : Value} {ss : List Sl} {A : Option Addr}
theorem OwnSS.nil (w : World) (lo hi : Nat) (ES EV : TypeId) : OwnSS w lo hi ES EV (.slice none 0 0) 0 [] := ⟨OwnR.nil _ _ _ _, fun s hs => by simp at hs, by simp [blks, Value.ownBlock]⟩
theorem OwnSS.below (h : OwnSS w lo hi ES EV v n ss) (hb : Below B w w') (hh : hi ≤ B) : OwnSS w' lo hi ES EV v n ss := ⟨h.1.below hb hh, fun s hs => (h.2.1 s hs).below hb hh, h.2.2⟩
theorem OwnSS.aside (h : OwnSS w lo hi ES EV v n ss) (ha : Aside lo' hi' w w') (hd : hi ≤ lo' ∨ hi' ≤ lo) : OwnSS w' lo hi ES EV v n ss := ⟨h.1.aside ha hd, fun s hs => (h.2.1 s hs).aside ha hd, h.2.2⟩
theorem OwnSS.wider (h : OwnSS w lo hi ES EV v n ss) (hl : lo' ≤ lo) (hh : hi ≤ hi') : OwnSS w lo' hi' ES EV v n ss := ⟨h.1.wider hl hh, fun s hs => (h.2.1 s hs).wider hl hh, h.2.2⟩
theorem OwnSS.form (h : OwnSS w lo hi ES EV v n ss) : ∃ A c, v = .slice A n c := h.1.form
theorem OwnSS.len (h : OwnSS w lo hi ES EV v n ss) : ss.length = n := h.1.len
theorem OwnSS.rdS (h : OwnSS w lo hi ES EV (.slice A n c) n ss) (hh : hi ≤ B) (hn : n ≤ 2097152) (hf : ∀ s ∈ ss, s.vs.length ≤ 1048576 ∧ wfV s.vs) : RdS w B A n ss :=
  ⟨h.len, h.1.rdB hh, hn, fun s hs => ⟨rfl, (h.2.1 s hs).rdB hh, (hf s hs).1, (hf s hs).2⟩⟩
/-- one list more, in a later block -/
theorem nodup_later {v : Value} {ss : List Sl} {s : Sl} {m : Nat} (h : (blks v ss).Nodup) (h1 : ∀ g ∈ blks v ss, g < m) (h2 : ∀ g, s.v.ownBlock = some g → m ≤ g) : (blks v (ss ++ [s])).Nodup := by
  have e : blks v (ss ++ [s]) = blks v ss ++ s.v.ownBlock.toList := by
    simp only [blks, List.filterMap_append, List.append_assoc]
    cases hs : s.v.ownBlock <;> simp [hs]
  rw [e, List.nodup_append]
  refine ⟨h, ?_, fun a ha b hb => ?_⟩
  · cases s.v.ownBlock <;> simp
  · have := h1 a ha
    have := h2 b (by simpa using hb)
    omega
end
end Go.Proofs.Ytdcceppednngjaa

/-
  The laws' helpers for lists of lists of vectors: szVecS, szVecSS: contracts.
-/

namespace Go.Proofs.Ytdcceppednngjaa
open Go.RowKit
set_option linter.unusedVariables false
/-- what a budget of k leaves behind m elements; -1 where they are more -/
def szR (k m : Nat) : Int := if m ≤ k then ((k - m : Nat) : Int) else -1
theorem szR_ok {k m : Nat} (h : m ≤ k) : szR k m = ((k - m : Nat) : Int) := if_pos h
theorem szR_no {k m : Nat} (h : k < m) : szR k m = -1 := if_neg (by omega)
theorem szV_any (w : World) (A : Option Addr) (n c k : Nat) (hk : k ≤ 1048576) (hn : n ≤ maxLen) :
    Calls Try.prog 31 #[.slice A n c, .int .i64 k] w fun e w' => e = .returned (.int .i64 (szR k n)) ∧ w = w' := by
  by_cases h : n ≤ k
  · rw [szR_ok h]; exact szVecS_ok w A n c k hk h
  · rw [szR_no (by omega)]; exact szVecS_no w A n c k hk hn (by omega)
/-- how many vectors lists hold in all -/
def totN (L : List (List V2)) : Nat := (L.map List.length).sum
theorem totN_take {L : List (List V2)} {k : Nat} (h : k < L.length) : totN (L.take (k + 1)) = totN (L.take k) + L[k].length := by
  unfold totN
  rw [List.take_succ_eq_append_getElem h, List.map_append, List.sum_append]; simp
theorem totN_all (L : List (List V2)) {k : Nat} (h : L.length ≤ k) : totN (L.take k) = totN L := by rw [List.take_of_length_le h]
theorem totN_take_le (L : List (List V2)) (k : Nat) : totN (L.take k) ≤ totN L := by
  have h := List.take_append_drop k L
  have : totN L = totN (L.take k) + totN (L.drop k) := by
    conv => lhs; rw [← h]
    unfold totN; rw [List.map_append, List.sum_append]
  omega
theorem totN_mem {L : List (List V2)} {l : List V2} (h : l ∈ L) : l.length ≤ totN L := by
  induction L with
  | nil => simp at h
  | cons a L ih =>
    have e : totN (a :: L) = a.length + totN L := by simp [totN]
    rcases List.mem_cons.1 h with rfl | h
    · omega
    · have := ih h; omega
/-- a list of lists that came in -/
def IsSS (w : World) (a : Option Addr) (len cap : Nat) (ss : List Sl) : Prop :=
  ss.length = len ∧ len ≤ cap ∧ cap ≤ maxLen ∧ Rd w w.heap.size a (slv ss) ∧ ∀ s ∈ ss, IsVecs w s.a s.vs.length s.c s.vs
theorem IsVecs.cap {w : World} {a : Option Addr} {len cap : Nat} {zs : List V2} (h : IsVecs w a len cap zs) : len ≤ cap ∧ cap ≤ maxLen := by
  rcases h with ⟨_, rfl, rfl, _⟩ | ⟨x, _, h1, h2, _⟩
  · exact ⟨Nat.le_refl _, Nat.zero_le _⟩
  · exact ⟨h1, h2⟩
theorem IsSS.rdS {w : World} {a : Option Addr} {len cap : Nat} {ss : List Sl} (h : IsSS w a len cap ss) (hl : len + totN (cont ss) ≤ 1048576) : RdS w w.heap.size a len ss :=
  ⟨h.1, h.2.2.2.1, by omega, fun s hs => (h.2.2.2.2 s hs).rdV (by
    have := totN_mem (L := cont ss) (l := s.vs) (List.mem_map.2 ⟨s, hs, rfl⟩)
    omega)⟩
set_option maxHeartbeats 400000 in
theorem szSS_any (w : World) (B : Nat) (A : Option Addr) (n c k : Nat) (ss : List Sl) (hk : k ≤ 1048576) (hn : ss.length = n) (hm : n ≤ maxLen) (hx : Rd w B A (slv ss)) (hs : ∀ s ∈ ss, s.vs.length ≤ maxLen) :
    Calls Try.prog 10 #[.slice A n c, .int .i64 k] w fun e w' => e = .returned (.int .i64 (szR k (n + totN (cont ss)))) ∧ w = w' := by
  have hm' := hm
  unfold maxLen at hm'
  by_cases h0 : k < n
  · rw [szR_no (by omega)]
    clear hx
    go_enter Try.func10, Try.ntmps10
    go_wp2_with fail
    go_ret
    exact ⟨rfl, rfl⟩
  go_enter Try.func10, Try.ntmps10
  go_wp2_with fail
  go_loop [1, 5] (fun q i => ∃ (j r : Nat), j ≤ n ∧ q = .int .i64 (r : Int) ∧ i = .int .i64 j ∧ Hid (r + n + totN ((cont ss).take j) = k)) (fun _ i => n - (intOf i).toNat)
  case atStart => exact ⟨0, k - n, Nat.zero_le _, by congr 1; omega, rfl, by show _ = _; simp [totN]; omega⟩
  case round =>
    obtain ⟨j, r, hj, rfl, rfl, H⟩ := hrel
    have hr : r ≤ 1048576 := by have := H.out; omega
    by_cases hlt : j < n
    · have hjl : j < ss.length := by omega
      have hjc : j < (cont ss).length := by rw [cont_len]; exact hjl
      obtain ⟨ad, hA, hb1, hc1⟩ := hx.sl hjl
      have HT := hide (totN_take hjc)
      rw [cont_at hjl] at HT
      have HSV := hide (szV_any w ss[j].a ss[j].vs.length ss[j].c r hr (hs _ (List.getElem_mem hjl)))
      have hle : Hid (totN ((cont ss).take (j + 1)) ≤ totN (cont ss)) := totN_take_le _ _
      generalize ss[j].vs.length = m at *
      generalize ss[j].a = A1 at *
      generalize ss[j].c = c1 at *
      clear hx
      subst hA
      by_cases h1 : m ≤ r
      · rw [szR_ok h1] at HSV
        have hnn : ¬ ((r - m : Nat) : Int) < 0 := by omega
        have HN : Hid ((r - m) + n + totN ((cont ss).take (j + 1)) = k) := by show _ = _; have := HT.out; have := H.out; omega
        clear H HT hle h1
        generalize r - m = r2 at *
        go_wp2_with fail
        refine HSV.out.mono ?_
        rintro e w' ⟨rfl, rfl⟩
        go_wp2_with fail
        go_round
        case rel => exact ⟨j + 1, r2, by omega, rfl, by go_num, HN⟩
        case measure => simp [intOf]; omega
      · rw [szR_no (by omega)] at HSV
        have HN : Hid (szR k (n + totN (cont ss)) = -1) := szR_no (by have := HT.out; have := H.out; have := hle.out; omega)
        clear H HT hle h1
        go_wp2_with fail
        refine HSV.out.mono ?_
        rintro e w' ⟨rfl, rfl⟩
        go_wp2_with fail
        go_ret
        exact ⟨by rw [HN.out]; rfl, rfl⟩
    · obtain rfl : j = n := by omega
      have HN : Hid (szR k (j + totN (cont ss)) = (r : Int)) := by
        have := H.out
        rw [totN_all _ (by rw [cont_len]; omega)] at this
        show _ = _
        rw [szR_ok (by omega)]; congr 1; omega
      clear H hx
      go_wp2_with fail
      go_ret
      exact ⟨by rw [HN.out]; rfl, rfl⟩

/-! toVecSS -/
theorem set_mid {xs ys : List Value} {k : Nat} {u : Value} (hx : xs.length = k) (hy : k < ys.length) : (xs ++ ys.drop k).set k u = (xs ++ [u]) ++ ys.drop (k + 1) := by
  rw [List.set_append_right _ _ (by omega), hx, Nat.sub_self, List.drop_eq_getElem_cons hy, List.set_cons_zero, List.append_assoc]
  rfl
set_option maxHeartbeats 1600000 in
theorem toSS_any (w : World) (B : Nat) (hB : B ≤ w.heap.size) (A : Option Addr) (n c : Nat) (ss : List Sl) (R : RdS w B A n ss) :
    Calls Try.prog 12 #[.slice A n c] w fun e w' => ∃ g tt, e = .returned (.slice (some ⟨g, 0, none⟩) n n) ∧ cont tt = cont ss ∧ OwnSS w' w.heap.size w'.heap.size 63 27 (.slice (some ⟨g, 0, none⟩) n n) n tt ∧ Below w.heap.size w w' := by
  obtain ⟨hn, hx, hl, hs⟩ := R
  obtain ⟨i0, hi0, hz0, hz1, hz2⟩ := info_parts Try.infoVecS
  obtain ⟨w1, hmk, hown0, hg0⟩ := run_make_full (P := Try.prog) w w.heap.size 36 63 i0 _ 1 Try.underlying36 hi0 hz0 hz1 .i64 .i64 n (by rw [hz2]; omega) (by unfold maxLen; omega) (Nat.le_refl _)
  have hb0 : Below w.heap.size w w1 := (Below.refl _ _).grown hg0 (Nat.le_refl _) (fun k h => by cases h)
  clear hi0 hz0 hz1 hz2 hg0
  generalize (madeCells (Value.slice none 0 0).cells (n * 1)).toList = ys at hown0
  have hyl : ys.length = n := by have := hown0.1; omega
  go_enter Try.func12, Try.ntmps12
  go_wp2
  go_loopw [4] (fun i wr => ∃ (k : Nat) (tt : List Sl), k ≤ n ∧ i = .int .i64 k ∧ tt.length = k ∧ cont tt = (cont ss).take k ∧ wr.ownsRow w.heap.size 63 1 (.slice (some ⟨w.heap.size, 0, none⟩) n n) n (slv tt ++ ys.drop k) ∧ (∀ s ∈ tt, OwnV wr (w.heap.size + 1) wr.heap.size 27 s.v s.vs.length s.vs) ∧ (blks (.slice (some ⟨w.heap.size, 0, none⟩) n n) tt).Nodup ∧ Below w.heap.size w wr) (fun i _ => n - (intOf i).toNat)
  case atStart => exact ⟨0, [], Nat.zero_le _, rfl, rfl, by simp [cont], by simpa [slv] using hown0, fun s h => by simp at h, by simp [blks, Value.ownBlock], hb0⟩
  case round =>
    clear hown0 hb0 hmk
    obtain ⟨k, tt, hk, rfl, htl, hct, hown, hos, hnd, hbel⟩ := hrel
    by_cases hlt : k < n
    · have hkl : k < ss.length := by omega
      obtain ⟨ad, hA, hb1, hc1⟩ := (hx.below (hbel.mono hB)).sl hkl
      have RS := (hs _ (List.getElem_mem hkl)).below (hbel.mono hB)
      have hbs := hbel.size
      have HV := hide (fun (W : World) (hb : Below B wr W) (hBW : B ≤ W.heap.size) => toVecS_any ss[k].a ss[k].vs.length ss[k].c B ss[k].vs W rfl (RS.2.1.below hb) hBW (by have := RS.2.2.1; omega) RS.2.2.2)
      have HC : Hid ((cont ss).take (k + 1) = (cont ss).take k ++ [ss[k].vs]) := by
        show _ = _
        rw [List.take_succ_eq_append_getElem (by rw [cont_len]; exact hkl), cont_at hkl]
      generalize ss[k].vs = vs at *
      generalize ss[k].a = A1 at *
      generalize ss[k].c = c1 at *
      have HO := hide (And.intro hown (And.intro hos hnd))
      have hgl : w.heap.size < wr.heap.size := (hown.lt _ rfl).2
      clear hown hos hnd hx RS hs
      subst hA
      go_wp2_with fail
      refine (HV.out _ (Below.refl _ _) (by omega)).mono ?_
      rintro e w2 ⟨g, rfl, hv, hb2⟩
      have hs2 := hb2.size
      obtain ⟨hown, hos, hnd⟩ := HO.out
      have hown2 := own_grown hown hb2
      obtain ⟨h1, h2⟩ := hown2.stored k (.slice (some ⟨g, 0, none⟩) vs.length vs.length)
      rw [set_mid (by rw [slv_len]; exact htl) (by omega)] at h1
      have hf1 := hown2.frozenAt k
      have hu1 : ∃ u, w2.cell? ⟨w.heap.size, k, none⟩ = some u := by
        have e1 : k < (slv tt ++ ys.drop k).length := by rw [List.length_append, slv_len, List.length_drop]; omega
        exact ⟨_, (hown2.cellAt k (by omega)).trans (List.getElem?_eq_getElem e1)⟩
      obtain ⟨u1, hu1⟩ := hu1
      have hov : OwnV w2 wr.heap.size w2.heap.size 27 (.slice (some ⟨g, 0, none⟩) vs.length vs.length) vs.length vs := OwnV.of hv
      have hg1 := (hv.lt g rfl).1
      have hset : Aside w.heap.size (w.heap.size + 1) w2 (w2.setCell ⟨w.heap.size, k, none⟩ (.slice (some ⟨g, 0, none⟩) vs.length vs.length)) := (Aside.refl _).setCell (a := ⟨w.heap.size, k, none⟩) (Nat.le_refl _) (Nat.lt_succ_self _) _
      have H1 : Hid (_ ∧ _ ∧ _ ∧ _) := ⟨h1, (fun s hs' => by
          rcases List.mem_append.1 hs' with hs' | hs'
          · exact (((hos s hs').below hb2 (Nat.le_refl _)).aside hset (.inr (Nat.le_refl _))).wider (Nat.le_refl _) (by rw [setCell_size]; exact hs2)
          · rw [List.mem_singleton.1 hs']
            exact (hov.aside hset (.inr (by omega))).wider (by omega) (by rw [setCell_size]; exact Nat.le_refl _) : ∀ s ∈ tt ++ [⟨some ⟨g, 0, none⟩, vs.length, vs⟩], OwnV (w2.setCell ⟨w.heap.size, k, none⟩ (.slice (some ⟨g, 0, none⟩) vs.length vs.length)) (w.heap.size + 1) (w2.setCell ⟨w.heap.size, k, none⟩ (.slice (some ⟨g, 0, none⟩) vs.length vs.length)).heap.size 27 s.v s.vs.length s.vs),
        nodup_later (s := ⟨some ⟨g, 0, none⟩, vs.length, vs⟩) (m := wr.heap.size) hnd (fun b hb => by
          simp only [blks, List.mem_append, List.mem_filterMap] at hb
          rcases hb with hb | ⟨s, hs', hb⟩
          · simp [Value.ownBlock] at hb; omega
          · exact (hos s hs').2 b hb) (fun b hb => by simp [Sl.v, Value.ownBlock] at hb; omega),
        (hbel.trans (hb2.mono hbs)).setCell (p := ⟨w.heap.size, k, none⟩) (Nat.le_refl _) (.slice (some ⟨g, 0, none⟩) vs.length vs.length)⟩
      clear h1 h2 hset hov hown2 hown hos hnd HO HV hv hb2
      go_wp2_with fail
      go_roundw
      case rel => exact ⟨k + 1, tt ++ [⟨some ⟨g, 0, none⟩, vs.length, vs⟩], by omega, by go_num, by simp [htl], by rw [HC.out, ← hct]; simp [cont], by rw [slv_append]; exact H1.out.1, H1.out.2.1, H1.out.2.2.1, H1.out.2.2.2⟩
      case measure => simp [intOf]; omega
    · obtain rfl : k = n := by omega
      have e1 : slv tt ++ ys.drop k = slv tt := by rw [List.drop_of_length_le (by omega), List.append_nil]
      rw [e1] at hown
      have e2 : cont tt = cont ss := by rw [hct, List.take_of_length_le (by rw [cont_len]; omega)]
      have H1 := hide (And.intro e2 (And.intro (OwnR.of_row (hi := wr.heap.size) hown (Nat.le_refl _)) (And.intro hos hnd)))
      clear e1 e2 hown hos hnd hx
      go_wp2_with fail
      go_ret
      exact ⟨_, tt, rfl, H1.out.1, ⟨H1.out.2.1, fun s hs' => (H1.out.2.2.1 s hs').wider (by omega) (Nat.le_refl _), H1.out.2.2.2⟩, hbel⟩
/-! eqVecSS -/
theorem cont_vs {ss tt : List Sl} (h : cont tt = cont ss) {k : Nat} (hs : k < ss.length) (ht : k < tt.length) : tt[k].vs = ss[k].vs := by
  rw [← cont_at hs, ← cont_at ht]; congr 1
set_option maxHeartbeats 1600000 in
theorem eqSS_any (w : World) (B : Nat) (hB : B ≤ w.heap.size) (A : Option Addr) (n c : Nat) (ss : List Sl) (R : RdS w B A n ss) (D : Option Addr) (d : Nat) (tt : List Sl) (S : RdS w B D n tt) (hc : cont tt = cont ss) :
    Calls Try.prog 15 #[.slice A n c, .slice D n d] w fun e w' => e = .returned (.bool true) ∧ Below w.heap.size w w' := by
  obtain ⟨hn, hx, hl, hs⟩ := R
  obtain ⟨hm, hy, _, ht⟩ := S
  go_enter Try.func15, Try.ntmps15
  go_wp2_with fail
  go_loopw [5] (fun i wr => ∃ k : Nat, k ≤ n ∧ i = .int .i64 k ∧ Below w.heap.size w wr) (fun i _ => n - (intOf i).toNat)
  case atStart => exact ⟨0, Nat.zero_le _, rfl, Below.refl _ _⟩
  case round =>
    obtain ⟨k, hk, rfl, hbel⟩ := hrel
    by_cases hlt : k < n
    · have hkl : k < ss.length := by omega
      have hkt : k < tt.length := by omega
      obtain ⟨ad, hA, hb1, hc1⟩ := (hx.below (hbel.mono hB)).sl hkl
      obtain ⟨ae, hE, hb3, hc3⟩ := (hy.below (hbel.mono hB)).sl hkt
      have RS := (hs _ (List.getElem_mem hkl)).below (hbel.mono hB)
      have RT := (ht _ (List.getElem_mem hkt)).below (hbel.mono hB)
      have hv := cont_vs hc hkl hkt
      rw [hv] at RT hc3
      have hba : (ad.add k).block < wr.heap.size := by rw [add_block]; have := hbel.size; omega
      have hbe : (ae.add k).block < wr.heap.size := by rw [add_block]; have := hbel.size; omega
      have hbs := hbel.size
      have HT := hide (fun (W : World) (hb : Below wr.heap.size wr W) => eqVecS_any ss[k].a tt[k].a ss[k].vs.length ss[k].c tt[k].c B ss[k].vs W rfl (RS.2.1.below (hb.mono (by omega))) (RT.2.1.below (hb.mono (by omega))) (by have := hb.size; omega) (by have := RS.2.2.1; omega) RS.2.2.2)
      generalize ss[k].vs.length = m at *
      generalize ss[k].vs = vs at *
      generalize ss[k].a = A1 at *
      generalize ss[k].c = c1 at *
      generalize tt[k].a = A2 at *
      generalize tt[k].c = c2 at *
      clear hx hy RS RT hs ht hv
      subst hA
      subst hE
      have hj0 : (0 : Int) ≤ (k : Int) := Int.natCast_nonneg _
      have hj1 : (k : Int) < (n : Int) := by omega
      go_wp2_with fail
      go_region_held3 (fun w' => w'.cell? (ad.add k) = some (.slice A1 m c1) ∧ w'.cell? (ae.add k) = some (.slice A2 m c2) ∧ Below wr.heap.size wr w')
        (first | exact ⟨hc1, hc3, (Below.refl _ _).drew⟩ | exact ⟨(hb2.cell hba).trans hc1, (hb2.cell hbe).trans hc3, undrew hb2⟩)
        (first | (go_at_call 39; refine (HT.out _ (Below.refl _ _).drew).mono ?_; rintro e w1 ⟨rfl, hb2⟩))
      go_wp2_with fail
      go_roundw
      case rel => exact ⟨k + 1, by omega, by go_num, hbel.trans ((undrew hb2).mono hbs)⟩
      case measure => simp [intOf]; omega
    · obtain rfl : k = n := by omega
      go_wp2_with fail
      go_ret
      exact ⟨rfl, hbel⟩
end Go.Proofs.Ytdcceppednngjaa

/-
  The laws' marks on lists of lists of vectors: contracts.
-/

namespace Go.Proofs.Ytdcceppednngjaa
open Go.RowKit
set_option linter.unusedVariables false
/-- a list of one's own lies in its one block -/
theorem OwnV.tight {w : World} {lo hi n : Nat} {E : TypeId} {v : Value} {vs : List V2} (h : OwnV w lo hi E v n vs) : ∃ l u, OwnV w l u E v n vs ∧ ((v.ownBlock = none ∧ l = 0 ∧ u = 0) ∨ (v.ownBlock = some l ∧ u = l + 1 ∧ lo ≤ l ∧ l < hi)) := by
  rcases h.1.2 with ⟨rfl, rfl⟩ | ⟨g, c, cur, rfl, hbg, hg, r⟩
  · have := h.len
    rw [List.eq_nil_of_length_eq_zero this]
    exact ⟨0, 0, OwnV.nil _ _ _ _, .inl ⟨rfl, rfl, rfl⟩⟩
  · exact ⟨g, g + 1, ⟨⟨h.1.1, .inr ⟨g, c, cur, rfl, Nat.le_refl _, hg, r⟩⟩, fun k hk => by simp [Value.ownBlock] at hk; omega⟩, .inr ⟨rfl, rfl, hbg, h.2 g rfl⟩⟩
theorem blks_pair {v : Value} {ss : List Sl} (h : (blks v ss).Nodup) {i j : Nat} (hi : i < ss.length) (hj : j < ss.length) (hij : i ≠ j) {a b : Nat} (ha : ss[i].v.ownBlock = some a) (hb : ss[j].v.ownBlock = some b) : a ≠ b := by
  unfold blks at h
  have h2 := (List.nodup_append.1 h).2.1
  have h3 := List.pairwise_filterMap.1 h2
  have h4 := List.pairwise_iff_getElem.1 h3
  rcases Nat.lt_or_gt_of_ne hij with hl | hl
  · exact h4 i j hi hj hl a ha b hb
  · exact fun e => h4 j i hj hi hl b hb a ha e.symm
theorem blks_head {v : Value} {ss : List Sl} (h : (blks v ss).Nodup) {j : Nat} (hj : j < ss.length) {a b : Nat} (ha : v.ownBlock = some a) (hb : ss[j].v.ownBlock = some b) : a ≠ b := by
  unfold blks at h
  exact (List.nodup_append.1 h).2.2 a (by rw [ha]; simp) b (List.mem_filterMap.2 ⟨ss[j], List.getElem_mem hj, hb⟩)
def mkS (k : Nat) : List Sl → List Sl
  | [] => []
  | s :: r => ⟨s.a, s.c, markV k s.vs.length⟩ :: mkS (k + s.vs.length * 2) r
theorem mkS_len : ∀ (ss : List Sl) (k : Nat), (mkS k ss).length = ss.length
  | [], _ => rfl
  | s :: r, k => by simp [mkS, mkS_len r]
theorem mkS_at : ∀ (ss : List Sl) (k j : Nat) (h : j < ss.length), (mkS k ss)[j]'(by rw [mkS_len]; exact h) = ⟨ss[j].a, ss[j].c, markV (k + totN ((cont ss).take j) * 2) ss[j].vs.length⟩
  | s :: r, k, 0, _ => by simp [mkS, totN]
  | s :: r, k, j + 1, h => by
    have := mkS_at r (k + s.vs.length * 2) j (by simpa using h)
    simp only [mkS, List.getElem_cons_succ]
    rw [this]
    have e : totN ((cont (s :: r)).take (j + 1)) = s.vs.length + totN ((cont r).take j) := by simp [cont, totN]
    rw [e]
    congr 2
    omega
theorem mkS_v (ss : List Sl) (k j : Nat) (h : j < ss.length) : ((mkS k ss)[j]'(by rw [mkS_len]; exact h)).v = ss[j].v := by
  rw [mkS_at ss k j h]; unfold Sl.v; rw [markV_len]
theorem mkS_slv (ss : List Sl) (k : Nat) : slv (mkS k ss) = slv ss := by
  apply List.ext_getElem
  · rw [slv_len, slv_len, mkS_len]
  · intro i h1 h2
    rw [slv_len] at h1 h2
    rw [slv_at h1, slv_at h2, mkS_v ss k i h2]
theorem mkS_blks (v : Value) (ss : List Sl) (k : Nat) : blks v (mkS k ss) = blks v ss := by
  have e : ∀ tt : List Sl, (tt.filterMap fun s => s.v.ownBlock) = (slv tt).filterMap Value.ownBlock := fun tt => by
    unfold slv; rw [List.filterMap_map]; rfl
  unfold blks
  rw [e, e, mkS_slv]
/-- what the first j lists read is marked, the others are as they were -/
def mixV (k j : Nat) (ss : List Sl) (i : Nat) (h : i < ss.length) : List V2 := if i < j then markV (k + totN ((cont ss).take i) * 2) ss[i].vs.length else ss[i].vs
set_option maxHeartbeats 1600000 in
theorem markSS_own (w : World) (v : Value) (n k lo hi : Nat) (ES EV : TypeId) (ss : List Sl) (o : OwnSS w lo hi ES EV v n ss) (hl : n + totN (cont ss) ≤ 100000000) (hk : k ≤ 500000000) (hhi : hi ≤ w.heap.size) :
    Calls Try.prog 16 #[v, .int .i64 k] w fun e w' => e = .returned (.int .i64 ((k + totN (cont ss) * 2 : Nat) : Int)) ∧ OwnSS w' lo hi ES EV v n (mkS k ss) ∧ Aside lo hi w w' := by
  obtain ⟨hR, hos, hnd⟩ := o
  have hlen := hR.len
  obtain ⟨A, c, rfl⟩ := hR.form
  have HND := hide hnd
  clear hnd
  go_enter Try.func16, Try.ntmps16
  go_wp2
  go_loopw [1, 5] (fun q i wr => ∃ j : Nat, j ≤ n ∧ q = .int .i64 ((k + totN ((cont ss).take j) * 2 : Nat) : Int) ∧ i = .int .i64 j ∧ OwnR wr lo hi ES (.slice A n c) n ss ∧ (∀ i (h : i < ss.length), OwnV wr lo hi EV ss[i].v ss[i].vs.length (mixV k j ss i h)) ∧ Aside lo hi w wr) (fun _ i _ => n - (intOf i).toNat)
  case atStart => exact ⟨0, Nat.zero_le _, by simp [totN], rfl, hR, fun i h => by unfold mixV; rw [if_neg (by omega)]; exact hos _ (List.getElem_mem h), Aside.refl _⟩
  case round =>
    clear hR hos
    obtain ⟨j, hj, rfl, rfl, hR, hos, ha⟩ := hrel
    by_cases hlt : j < n
    · have hjl : j < ss.length := by omega
      obtain ⟨ad, hA, hb1, hc1⟩ := (hR.rdB (Nat.le_refl _)).sl hjl
      have hT : totN ((cont ss).take (j + 1)) = totN ((cont ss).take j) + ss[j].vs.length := by rw [totN_take (by rw [cont_len]; exact hjl), cont_at hjl]
      have hle := totN_take_le (cont ss) (j + 1)
      obtain ⟨l, u, ht, hlu⟩ := (hos j hjl).tight
      have hK : k + totN ((cont ss).take j) * 2 ≤ 1000000000 := by omega
      have HM := hide (markVecS_own ss[j].v ss[j].vs.length (k + totN ((cont ss).take j) * 2) EV l u _ wr ht (by omega) hK)
      have HN : Hid (∀ w', OwnV w' l u EV ss[j].v ss[j].vs.length (markV (k + totN ((cont ss).take j) * 2) ss[j].vs.length) → Aside l u wr w' → OwnR w' lo hi ES (.slice A n c) n ss ∧ (∀ i (h : i < ss.length), OwnV w' lo hi EV ss[i].v ss[i].vs.length (mixV k (j + 1) ss i h)) ∧ Aside lo hi w w') := by
        intro w' ho ha'
        refine ⟨hR.kept fun g hg => ?_, fun i h => ?_, ?_⟩
        · rcases hlu with ⟨_, rfl, rfl⟩ | ⟨h1, h2, h3, h4⟩
          · exact ha'.block g (hR.1.lt g hg).2 (.inr (Nat.zero_le _))
          · have := blks_head HND.out hjl hg h1
            exact ha'.block g (hR.1.lt g hg).2 (by omega)
        · by_cases e : i = j
          · subst e
            unfold mixV
            rw [if_pos (by omega)]
            rcases hlu with ⟨h0, rfl, rfl⟩ | ⟨h1, h2, h3, h4⟩
            · refine ⟨⟨ho.1.1, ?_⟩, fun g hg => by rw [h0] at hg; cases hg⟩
              rcases ho.1.2 with hn | ⟨g, c', cur, hv, _⟩
              · exact .inl hn
              · rw [hv] at h0; cases h0
            · exact ho.wider h3 (by omega)
          · have e2 : mixV k (j + 1) ss i h = mixV k j ss i h := by
              unfold mixV
              by_cases h3 : i < j
              · rw [if_pos h3, if_pos (by omega)]
              · rw [if_neg h3, if_neg (by omega)]
            rw [e2]
            refine (hos i h).kept fun g hg => ?_
            have hgl := ((hos i h).1.lt g hg).2
            rcases hlu with ⟨_, rfl, rfl⟩ | ⟨h1, h2, h3, h4⟩
            · exact ha'.block g hgl (.inr (Nat.zero_le _))
            · have := blks_pair HND.out h hjl e hg h1
              exact ha'.block g hgl (by omega)
        · rcases hlu with ⟨_, rfl, rfl⟩ | ⟨h1, h2, h3, h4⟩
          · exact ha.trans ⟨ha'.os, ha'.tape, ha'.output, ha'.size, fun b hb hd => ha'.block b hb (.inr (Nat.zero_le _))⟩
          · exact ha.trans (ha'.wide h3 (by omega))
      have e3 : Hid (k + totN ((cont ss).take j) * 2 + ss[j].vs.length * 2 = k + totN ((cont ss).take (j + 1)) * 2) := by show _ = _; omega
      have hq9 : k + totN ((cont ss).take (j + 1)) * 2 ≤ 1000000000 := by omega
      clear hT hle hR hos ha ht hlu
      unfold Sl.v at HM HN
      generalize ss[j].a = A1 at *
      generalize ss[j].c = c1 at *
      generalize ss[j].vs.length = m at *
      generalize hK2 : k + totN ((cont ss).take (j + 1)) * 2 = K2 at *
      have HK2 := hide hK2
      clear hK2
      generalize k + totN ((cont ss).take j) * 2 = K1 at *
      subst hA
      go_wp2_with fail
      refine HM.out.mono ?_
      rintro e w2 ⟨rfl, ho, ha'⟩
      have H3 := hide (HN.out w2 ho ha')
      rw [e3.out]
      clear ho ha' HM HN e3
      go_wp2_with fail
      go_roundw
      case rel => exact ⟨j + 1, by omega, by rw [HK2.out], by go_num, H3.out.1, H3.out.2.1, H3.out.2.2⟩
      case measure => simp [intOf]; omega
    · obtain rfl : j = n := by omega
      have HE : Hid (OwnSS wr lo hi ES EV (.slice A j c) j (mkS k ss) ∧ Aside lo hi w wr) := by
        refine ⟨⟨⟨by rw [mkS_slv]; exact hR.1, hR.2⟩, fun s hs => ?_, by rw [mkS_blks]; exact HND.out⟩, ha⟩
        obtain ⟨i, hi', rfl⟩ := List.getElem_of_mem hs
        rw [mkS_len] at hi'
        have := hos i hi'
        unfold mixV at this
        rw [if_pos (by omega)] at this
        rw [mkS_at ss k i hi']
        show OwnV wr lo hi EV (.slice _ _ _) _ _
        rw [markV_len]
        exact this
      have e4 : (cont ss).take j = cont ss := List.take_of_length_le (by rw [cont_len]; omega)
      rw [e4]
      clear hR hos ha e4
      go_wp2
      go_ret
      exact ⟨rfl, HE.out⟩
end Go.Proofs.Ytdcceppednngjaa
