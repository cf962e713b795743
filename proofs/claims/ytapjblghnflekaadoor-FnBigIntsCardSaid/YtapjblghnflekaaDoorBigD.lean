/-
  The laws' big integers: what the reference's draws make.
-/
import Derived.Test.YtapjblghnflekaaDoorNatD
import Derived.Test.YtapjblghnflekaaDoorBigR2
import Derived.Test.YtapjblghnflekaaDoorBigN
namespace Go.Proofs.YtapjblghnflekaaDoor
open Go.RowKit
set_option linter.unusedVariables false

set_option maxHeartbeats 400000 in
theorem l01Once_any (G n c m : Nat) (A : Option Addr) (B : Nat) (w : World) (hn : n ≤ 1099511627776) (hm : 1 ≤ m) (hm2 : m ≤ 1000000000000) (hc : CurAt w G A n c) (hb : Bytes w B A n) (hB : B ≤ G) :
    Calls Tryd.prog 23 #[.pointer (some ⟨G, 0, none⟩), .int .i64 m] w fun e w' => ∃ b, e = .returned (.bool b) ∧ CurAt w' G A n c ∧ Only G w w' := by
  go_enter Tryd.func23, Tryd.ntmps23
  go_wp2_with fail
  refine (l01Below_any G n c m A B w hn hm hm2 hc hb hB).mono ?_
  rintro e w1 ⟨r, rfl, hr, hc1, ho⟩
  have HC := hide hc1
  have HO := hide ho
  clear hc1 ho hc hb
  go_wp2_with fail
  go_ret
  exact ⟨_, rfl, HC.out, HO.out⟩
theorem aside_set_new {w W : World} {lo hi g j : Nat} (h : Aside lo hi w W) (hg : w.heap.size ≤ g) (u : Value) : Aside lo hi w (W.setCell ⟨g, j, none⟩ u) :=
  ⟨h.os, h.tape, h.output, by rw [setCell_size]; exact h.size, fun k hk hd => (Below.heap_setCell _ _ _ _ (show k ≠ g by omega)).trans (h.block k hk hd)⟩
theorem draw_end {w W : World} {G g lo hi n : Nat} {E F : TypeId} {a b x v : Value} {xs : List Value} (k : Box W g E #[a, b]) (o : Own W lo hi F v n xs) (ha : Aside G (G + 1) w W) (hg : w.heap.size ≤ g) (hlo : g < lo) (hhi : hi ≤ W.heap.size) :
    Box ((W.setCell ⟨g, 0, none⟩ x).setCell ⟨g, 1, none⟩ v) g E #[x, v] ∧ Own ((W.setCell ⟨g, 0, none⟩ x).setCell ⟨g, 1, none⟩ v) w.heap.size ((W.setCell ⟨g, 0, none⟩ x).setCell ⟨g, 1, none⟩ v).heap.size F v n xs ∧ Aside G (G + 1) w ((W.setCell ⟨g, 0, none⟩ x).setCell ⟨g, 1, none⟩ v) :=
  ⟨k.set2 x v, ((o.setv (.inl hlo) 0 x).setv (.inl hlo) 1 v).wider (by omega) (by rw [setCell_size, setCell_size]; exact hhi), aside_set_new (aside_set_new ha hg x) hg v⟩
theorem aside_below {w W W' : World} {lo hi : Nat} (h : Aside lo hi w W) (k : Below W.heap.size W W') : Aside lo hi w W' := h.trans (belowAsides k lo hi)
set_option maxHeartbeats 1600000 in
theorem l03Draw_any (G n c : Nat) (A : Option Addr) (B : Nat) (w : World) (hn : n ≤ 1099511627776) (hc : CurAt w G A n c) (hb : Bytes w B A n) (hB : B ≤ G) :
    Calls Tryd.prog 11 #[.pointer (some ⟨G, 0, none⟩), .int .i64 3] w fun e w' => ∃ (a : Int) (v : Value), e = .returned (.agg #[.bool (capZ a).1, v]) ∧ Own w' w.heap.size w'.heap.size 3 v (capZ a).2.length (iv (capZ a).2) ∧ a.natAbs < 1000000000000000000000000000 ∧ Aside G (G + 1) w w' := by
  have hGw := hc.lt
  have hb0 := below_new w (.cells #[.bool false, .slice none 0 0] 25)
  have ha0 := alloc_aside w (.cells #[.bool false, .slice none 0 0] 25) G (G + 1)
  have k0 := Box.last w 25 #[.bool false, .slice none 0 0] rfl
  have hs0 := alloc_size w (.cells #[.bool false, .slice none 0 0] 25)
  have hc0 := hc.below hb0 hGw
  have hbb0 := hb.below (hb0.mono (by omega))
  have HO1 := hide (l01Once_any G n c 3 A B _ hn (by omega) (by omega) hc0 hbb0 hB)
  go_enter Tryd.func11, Tryd.ntmps11
  go_wp2_with fail
  refine HO1.out.mono ?_
  rintro e w1 ⟨b1, rfl, hc1, ho1⟩
  have ha1 := ha0.trans ho1.aside
  have k1 := k0.aside ho1.aside (.inr (by omega))
  have hs1 : w1.heap.size = w.heap.size + 1 := by rw [ho1.2, hs0]
  have hbb1 := hbb0.below (ho1.below hB (by omega))
  clear hc hb hb0 ha0 k0 hc0 hbb0 HO1 ho1
  cases b1
  · go_wp2_with fail
    refine (l01Once_any G n c 2 A B w1 hn (by omega) (by omega) hc1 hbb1 hB).mono ?_
    rintro e w2 ⟨b2, rfl, hc2, ho2⟩
    have ha2 := ha1.trans ho2.aside
    have k2 := k1.aside ho2.aside (.inr (by omega))
    have hs2 : w2.heap.size = w.heap.size + 1 := by rw [ho2.2, hs1]
    have hbb2 := hbb1.below (ho2.below hB (by omega))
    have HN := hide (l02Nat_any G n c 3 A B w2 hn (by omega) hc2 hbb2 hB)
    clear hc1 hbb1 ha1 k1 ho2 hc2 hbb2
    go_wp2_with fail
    refine HN.out.mono ?_
    rintro e w3 ⟨v3, xs, rfl, q3, hcx, hl3, hA3⟩
    obtain ⟨A3, c3, rfl, _, _, _⟩ := own_reads q3
    have ha3 := ha2.trans hA3
    have k3 := k2.aside hA3 (.inr (by omega))
    have hs3 := hA3.size
    have HM := hide (spec_Make w3 w3.heap.size (Nat.le_refl _) b2 A3 xs.length c3 xs rfl (own_rd q3) (own_nilcap q3).2.1 (own_nilcap q3).2.2)
    have hv0 := val_nonneg hcx.1
    have hz := make_eq (s := b2) (k := (val xs).toNat) hcx.1 (by omega)
    have hlt : (val xs).toNat < 1000000000000000000000000000 := by
      have h1 := val_lt hcx.1
      rw [pow_cast] at h1
      have h2 : 1000000000 ^ xs.length ≤ 1000000000 ^ 3 := Nat.pow_le_pow_right (by omega) hl3
      have h3 : (1000000000 : Nat) ^ 3 = 1000000000000000000000000000 := by decide
      omega
    have HZ := hide hz
    have HLT := hide hlt
    clear HN k2 ha2 hA3 q3 hcx hz hlt hv0
    go_wp2_with fail
    refine HM.out.mono ?_
    rintro e w4 ⟨v4, rfl, o4, hb4⟩
    obtain ⟨A4, c4, rfl⟩ := o4.form
    have ha4 := aside_below ha3 hb4
    have k4 := k3.below hb4 k3.lt
    have hs4 := hb4.size
    have HE := hide (draw_end (x := .bool (b2 && !(capT xs).isEmpty)) k4 o4 ha4 (Nat.le_refl _) (by omega) (Nat.le_refl _))
    obtain ⟨t0, t1, z0, z1⟩ := k4.facts
    clear HM k3 ha3 ha4 k4 o4 hb4
    go_wp2_with fail
    refine bodyPost_ret (results_cell_row rfl _ _ w.heap.size _ #[.bool (b2 && !(capT xs).isEmpty), .slice A4 (capT xs).length c4] (0, 0) _ rfl HE.out.1 Tryd.underlying25 rfl Tryd.sizeBig) rfl ?_
    refine ⟨if b2 then -((val xs).toNat : Int) else (val xs).toNat, .slice A4 (capT xs).length c4, ?_, ?_, ?_, HE.out.2.2⟩
    · rw [← HZ.out]
    · rw [← HZ.out]; exact HE.out.2.1
    · have := HLT.out
      split <;> omega
  · go_wp2_with fail
    refine (l01Below_any G n c 2001 A B w1 hn (by omega) (by omega) hc1 hbb1 hB).mono ?_
    rintro e w2 ⟨r, rfl, hr, hc2, ho2⟩
    have ha2 := ha1.trans ho2.aside
    have k2 := k1.aside ho2.aside (.inr (by omega))
    have hs2 : w2.heap.size = w.heap.size + 1 := by rw [ho2.2, hs1]
    have hwf : (Lit.int .i64 ((r : Int) - 1000)).wf = true := wf_of (by omega) (by omega)
    have HM := hide (spec_BigIntOf w2 w2.heap.size (Nat.le_refl _) ((r : Int) - 1000) hwf)
    clear hc1 hbb1 ha1 k1 ho2 hc2 hwf
    go_wp2_with fail
    refine HM.out.mono ?_
    rintro e w4 ⟨v4, rfl, o4, hb4⟩
    obtain ⟨A4, c4, rfl⟩ := o4.form
    have ha4 := aside_below ha2 hb4
    have k4 := k2.below hb4 k2.lt
    have hs4 := hb4.size
    have HE := hide (draw_end (x := .bool (capZ ((r : Int) - 1000)).1) k4 o4 ha4 (Nat.le_refl _) (by omega) (Nat.le_refl _))
    obtain ⟨t0, t1, z0, z1⟩ := k4.facts
    clear HM k2 ha2 ha4 k4 o4 hb4
    go_wp2_with fail
    refine bodyPost_ret (results_cell_row rfl _ _ w.heap.size _ #[.bool (capZ ((r : Int) - 1000)).1, .slice A4 (capZ ((r : Int) - 1000)).2.length c4] (0, 0) _ rfl HE.out.1 Tryd.underlying25 rfl Tryd.sizeBig) rfl ?_
    exact ⟨(r : Int) - 1000, _, rfl, HE.out.2.1, by omega, HE.out.2.2⟩
set_option maxHeartbeats 800000 in
theorem MakeBig_any (n c B : Nat) (A : Option Addr) (k : Nat) (hk : k ≤ 1000) (w : World) (hn : n ≤ 1099511627776) (hb : Bytes w B A n) (hB : B ≤ w.heap.size) :
    Calls Tryd.prog 4 #[.slice A n c, .int .i64 k] w fun e w' => ∃ (a : Int) (v : Value), e = .returned (.agg #[.bool (capZ a).1, v]) ∧ Own w' w.heap.size w'.heap.size 3 v (capZ a).2.length (iv (capZ a).2) ∧ a.natAbs < 1000000000000000000000000000 ∧ Below w.heap.size w w' := by
  obtain ⟨K, hK⟩ : ∃ K : Nat, K = 4 * k := ⟨_, rfl⟩
  have hKe : 4 * (k : Int) = (K : Int) := by omega
  have hb0 := below_new w (.cells #[.bool false, .slice none 0 0] 25)
  have k0 := Box.last w 25 #[.bool false, .slice none 0 0] rfl
  have hs0 := alloc_size w (.cells #[.bool false, .slice none 0 0] 25)
  have hbb0 := hb.below (hb0.mono hB)
  have HL := hide (l31New_any n c B K A _ hn (by omega) hbb0 (show B ≤ (w.alloc (.cells #[.bool false, .slice none 0 0] 25)).heap.size by omega))
  rw [hs0] at HL
  clear hK
  go_enter Tryd.func4, Tryd.ntmps4
  go_wp2_with fail
  refine HL.out.mono ?_
  rintro e w1 ⟨rfl, hc1, hb1, hs1⟩
  have hb1' : Below w.heap.size w w1 := hb0.trans (hb1.mono (Nat.le_succ _))
  have k1 := k0.below hb1 (Nat.lt_succ_self _)
  have HN := hide (l03Draw_any (w.heap.size + 1) n c A B w1 hn hc1 (hb.below (hb1'.mono hB)) (by omega))
  have HS := hide hs1
  clear hs1 hc1 hb1 HL hb hbb0 k0 hb0 hs0
  go_wp2_with fail
  refine HN.out.mono ?_
  rintro e w2 ⟨a, v, rfl, o2, hlt, ha⟩
  obtain ⟨A2, c2, rfl⟩ := o2.form
  have hs1 := HS.out
  have hs2 := ha.size
  have hb2' := hb1'.trans (ha.below (show w.heap.size ≤ w.heap.size + 1 by omega) (by omega))
  have k2 := k1.aside ha (.inl (Nat.lt_succ_self _))
  have HE := hide (ret_big (x := .bool (capZ a).1) k2 o2 hb2' (Nat.le_refl _) (by omega) (Nat.le_refl _))
  obtain ⟨t0, t1, z0, z1⟩ := k2.facts
  have HLT := hide hlt
  clear hs1 hs2 hb2' k2 k1 o2 hb1' ha hlt HN
  go_wp2_with fail
  refine bodyPost_ret (results_cell_row rfl _ _ w.heap.size _ #[.bool (capZ a).1, .slice A2 (capZ a).2.length c2] (0, 0) _ rfl HE.out.1 Tryd.underlying25 rfl Tryd.sizeBig) rfl ?_
  exact ⟨a, _, rfl, HE.out.2.1, HLT.out, HE.out.2.2⟩
theorem MakeBig0 (n c B : Nat) (A : Option Addr) (w : World) (hn : n ≤ 1099511627776) (hb : Bytes w B A n) (hB : B ≤ w.heap.size) :
    Calls Tryd.prog 4 #[.slice A n c, .int .i64 0] w fun e w' => ∃ (a : Int) (v : Value), e = .returned (.agg #[.bool (capZ a).1, v]) ∧ Own w' w.heap.size w'.heap.size 3 v (capZ a).2.length (iv (capZ a).2) ∧ a.natAbs < 1000000000000000000000000000 ∧ Below w.heap.size w w' :=
  MakeBig_any n c B A 0 (by omega) w hn hb hB
theorem MakeBig1 (n c B : Nat) (A : Option Addr) (w : World) (hn : n ≤ 1099511627776) (hb : Bytes w B A n) (hB : B ≤ w.heap.size) :
    Calls Tryd.prog 4 #[.slice A n c, .int .i64 1] w fun e w' => ∃ (a : Int) (v : Value), e = .returned (.agg #[.bool (capZ a).1, v]) ∧ Own w' w.heap.size w'.heap.size 3 v (capZ a).2.length (iv (capZ a).2) ∧ a.natAbs < 1000000000000000000000000000 ∧ Below w.heap.size w w' :=
  MakeBig_any n c B A 1 (by omega) w hn hb hB
end Go.Proofs.YtapjblghnflekaaDoor
