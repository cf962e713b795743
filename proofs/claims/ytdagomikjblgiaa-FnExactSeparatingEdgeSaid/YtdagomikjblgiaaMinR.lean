/-
  The reference's sums of polygons: contracts: SeparatingEdge, Touches.
-/
import Derived.Test.YtdagomikjblgiaaMinM
import Derived.Test.YtdagomikjblgiaaPolR
import Derived.Test.YtdagomikjblgiaaPolI
import Derived.Test.YtdagomikjblgiaaPtL
namespace Go.Proofs.Ytdagomikjblgiaa
open Go.RowKit
set_option linter.unusedVariables false
theorem sepI_take {a b : List V2} {i m : Nat} (hm : m < b.length) : sepI a (b.take (m + 1)) i = (sepI a (b.take m) i && decide (tV (atV a i) (atV a ((i + 1) % a.length)) b[m] < 0)) := by
  unfold sepI
  rw [List.take_succ_eq_append_getElem hm, List.all_append]
  simp
theorem sepI_nil (a b : List V2) (i : Nat) : sepI a (b.take 0) i = true := by unfold sepI; simp
set_option maxRecDepth 100000 in
set_option maxHeartbeats 1600000 in
theorem spec_SeparatingEdge (w : World) (B : Nat) (hB : B ≤ w.heap.size) (A : Option Addr) (n c : Nat) (l : List V2) (R : RdV w B A n l) (D : Option Addr) (m d : Nat) (t : List V2) (S : RdV w B D m t) :
    Calls Try.prog 20 #[.slice A n c, .slice D m d] w fun e w' => e = .returned (.int .i64 (sepL l t)) ∧ Below w.heap.size w w' := by
  have HP := hide (spec_IsPolygon w B hB A n c l R)
  have HP2 := hide (fun (W : World) (h : Below w.heap.size w W) => spec_IsPolygon W B (Nat.le_trans hB h.size) D m d t (S.below (h.mono hB)))
  obtain ⟨hn, hx, hl, hwf⟩ := R
  obtain ⟨hm, hy, hml, hwf'⟩ := S
  cases ep : polyB l with
  | false =>
    have HN : Hid (sepL l t = -1) := sepL_a ep
    rw [ep] at HP
    clear hx hy ep
    go_enter Try.func20, Try.ntmps20
    go_wp2_with fail
    refine HP.out.mono ?_
    rintro e w1 ⟨rfl, hb1⟩
    go_wp2_with fail
    go_ret
    exact ⟨ret_int HN.out.symm, hb1⟩
  | true =>
  have hpp := polyB_iff.1 ep
  cases eq : polyB t with
  | false =>
    have HN : Hid (sepL l t = -1) := sepL_b eq
    rw [ep] at HP
    rw [eq] at HP2
    clear hx hy ep eq
    go_enter Try.func20, Try.ntmps20
    go_wp2_with fail
    refine HP.out.mono ?_
    rintro e w1 ⟨rfl, hb1⟩
    go_wp2_with fail
    refine (HP2.out _ hb1).mono ?_
    rintro e w2 ⟨rfl, hb2⟩
    go_wp2_with fail
    go_ret
    exact ⟨ret_int HN.out.symm, below_then hb1 hb2⟩
  | true =>
    have HQ : Hid (sepL l t = sepK l t) := sepL_is ep eq
    have h3 := hpp.1
    have h16 := hpp.2.1
    rw [ep] at HP
    rw [eq] at HP2
    clear ep eq hpp
    go_enter Try.func20, Try.ntmps20
    go_wp2_with fail
    refine HP.out.mono ?_
    rintro e w1 ⟨rfl, hb1⟩
    go_wp2_with fail
    refine (HP2.out _ hb1).mono ?_
    rintro e w2 ⟨rfl, hb2⟩
    have hb3 := below_then hb1 hb2
    clear HP HP2 hb1 hb2
    go_wp2_with fail
    go_loopw [20] (fun i wr => ∃ k : Nat, k ≤ n ∧ i = .int .i64 k ∧ Hid (∀ i, i < k → sepI l t i = false) ∧ Below w.heap.size w wr) (fun i _ => n - (intOf i).toNat)
    case atStart => exact ⟨0, Nat.zero_le _, rfl, fun i h => absurd h (Nat.not_lt_zero _), hb3⟩
    case round =>
      clear hb3
      obtain ⟨k, hk, rfl, H, hbel⟩ := hrel
      by_cases hlt : k < n
      · obtain ⟨ad, hA, hb1, hc1, hc2⟩ := (hx.below (hbel.mono hB)).vec (k := k) (by omega)
        have hkl : k < l.length := by omega
        obtain ⟨f1, f2⟩ := wfV_at hwf hkl
        have hmo : ((k : Int) + 1) % (n : Int) = (((k + 1) % n : Nat) : Int) := by rw [Int.natCast_emod]; rfl
        have hp : (k + 1) % n < n := Nat.mod_lt _ (by omega)
        have hpl : Hid ((k + 1) % l.length = (k + 1) % n) := by show _ = _; rw [hn]
        generalize (k + 1) % n = p at *
        have hpl2 : p < l.length := by omega
        obtain ⟨f3, f4⟩ := wfV_at hwf hpl2
        have HE : Hid (∀ q, tV (atV l k) (atV l ((k + 1) % l.length)) q = turnI l[k].1 l[k].2 l[p].1 l[p].2 q.1 q.2) := fun q => by rw [atV_eq hkl]; simp only [hpl.out]; rw [atV_eq hpl2]; rfl
        have HT := hide (fun (W : World) (x y : Int) (f5 : (Lit.int .i64 x).wf = true) (f6 : (Lit.int .i64 y).wf = true) => spec_Turn W l[k].1 l[k].2 f1 f2 l[p].1 l[p].2 f3 f4 x y f5 f6)
        generalize l[k].1 = x0 at *
        generalize l[k].2 = y0 at *
        clear f1 f2 f3 f4
        obtain ⟨wo, ewo⟩ : ∃ x, x = wr := ⟨_, rfl⟩
        subst ewo
        obtain ⟨W0, hW0⟩ : ∃ W0, W0 = wo.alloc (.cells #[.int .i64 x0, .int .i64 y0] 32) := ⟨_, rfl⟩
        have ka : Box W0 wo.heap.size 32 #[.int .i64 x0, .int .i64 y0] := by rw [hW0]; exact Box.last _ _ _ rfl
        have hT : Below wo.heap.size wo W0 := by rw [hW0]; exact below_new _ _
        subst hA
        go_wp2_with fail
        rw [← hW0]
        clear hW0 hc1 hc2
        have hT0 := hbel.trans (hT.mono hbel.size)
        have hws := hT0.size
        clear hT
        go_loopw [7, 27] (fun o j wi => ∃ q : Nat, q ≤ m ∧ j = .int .i64 q ∧ o = .bool (sepI l (t.take q) k) ∧ Below W0.heap.size W0 wi) (fun _ j _ => m - (intOf j).toNat)
        case atStart => exact ⟨0, Nat.zero_le _, rfl, by rw [sepI_nil], Below.refl _ _⟩
        case round =>
          obtain ⟨q, hq, rfl, rfl, hbi⟩ := hrel
          by_cases hqlt : q < m
          · have hTi := hT0.trans (hbi.mono hws)
            obtain ⟨ae, hE, hb5, hc5, hc6⟩ := (hy.below (hTi.mono hB)).vec (k := q) (by omega)
            have hql : q < t.length := by omega
            obtain ⟨f5, f6⟩ := wfV_at hwf' hql
            have HS := hide (sepI_take (a := l) (i := k) hql)
            have HEq : Hid (tV (atV l k) (atV l ((k + 1) % l.length)) t[q] = turnI x0 y0 l[p].1 l[p].2 t[q].1 t[q].2) := HE.out t[q]
            have HTq := hide (fun (W : World) => HT.out W t[q].1 t[q].2 f5 f6)
            generalize tV (atV l k) (atV l ((k + 1) % l.length)) t[q] = T at *
            rw [← HEq.out] at HTq
            clear HEq f5 f6
            generalize t[q].1 = x1 at *
            generalize t[q].2 = y1 at *
            obtain ⟨W1, hW1⟩ : ∃ W1, W1 = wr.alloc (.cells #[.int .i64 x1, .int .i64 y1] 32) := ⟨_, rfl⟩
            have kb : Box W1 wr.heap.size 32 #[.int .i64 x1, .int .i64 y1] := by rw [hW1]; exact Box.last _ _ _ rfl
            have hbj : Below W0.heap.size W0 W1 := by rw [hW1]; exact below_alloc hbi _
            subst hE
            generalize sepI l (t.take q) k = o at *
            go_upto_region 10 with fail
            rw [← hW1]
            clear hW1 hTi hc5 hc6
            have ka1 := ka.below hbj ka.lt
            have hTj := hT0.trans (hbj.mono hws)
            obtain ⟨ad', hA', hb6, hc1, hc2⟩ := (hx.below (hTj.mono hB)).vec (k := p) (by omega)
            cases hA'
            cases o with
            | false =>
              have HS2 : Hid (sepI l (t.take (q + 1)) k = false) := by show _ = _; rw [HS.out]; rfl
              clear hc1 hc2 HS HTq
              go_quiet (fail)
              go_wp2_with fail
              go_roundw
              case rel => exact ⟨q + 1, by omega, by go_num, by rw [HS2.out], below_drewN hbj _⟩
              case measure => simp [intOf]; omega
            | true =>
              have HS2 : Hid (sepI l (t.take (q + 1)) k = decide (T < 0)) := by show _ = _; rw [HS.out]; rfl
              have hx' : (ad.add (p * 2)).block < W1.heap.size := by rw [add_block]; have := hTj.size; omega
              obtain ⟨ya0, ya1⟩ := ka1.cells2
              obtain ⟨yb0, yb1⟩ := kb.cells2
              have hla := ka1.lt
              have hlb := kb.lt
              generalize l[p].1 = x2 at *
              generalize l[p].2 = y2 at *
              have hm0 : ((k : Int) + 1).tmod (n : Int) = (p : Int) := by rw [Int.tmod_eq_emod_of_nonneg (by omega)]; exact hmo
              have hw1 : IntKind.i64.wrap ((k : Int) + 1) = (k : Int) + 1 := IntWalk.i64_in _ (by omega)
              have hw2 : IntKind.i64.wrap (p : Int) = (p : Int) := IntWalk.i64_in _ (by omega)
              have hi1 : 0 ≤ (p : Int) := Int.natCast_nonneg _
              have hi2 : (p : Int) < (n : Int) := by omega
              have hi3 : 0 ≤ (k : Int) + 1 := by omega
              have hi4 : 0 < (n : Int) := by omega
              have hi6 : p < n := hp
              have hi7 : n ≠ 0 := by omega
              have hi8 : (((n : Int) == 0) = false) := by simpa using hi7
              clear ka1 kb HS HE HT hwf hwf' hpl
              go_region_held3 (fun w' => w'.cell? ⟨wo.heap.size, 0, none⟩ = some (.int .i64 x0) ∧ w'.cell? ⟨wo.heap.size, 1, none⟩ = some (.int .i64 y0) ∧ w'.cell? ⟨wr.heap.size, 0, none⟩ = some (.int .i64 x1) ∧ w'.cell? ⟨wr.heap.size, 1, none⟩ = some (.int .i64 y1) ∧ w'.cell? (ad.add (p * 2)) = some (.int .i64 x2) ∧ w'.cell? ⟨(ad.add (p * 2)).block, (ad.add (p * 2)).off + 1, none⟩ = some (.int .i64 y2) ∧ Below W1.heap.size W1 w')
                (first | exact ⟨ya0, ya1, yb0, yb1, hc1, hc2, (Below.refl _ _).drew⟩ | exact ⟨(hb9.cell hla).trans ya0, (hb9.cell (p := ⟨_, _, none⟩) hla).trans ya1, (hb9.cell hlb).trans yb0, (hb9.cell (p := ⟨_, _, none⟩) hlb).trans yb1, (hb9.cell hx').trans hc1, (hb9.cell (p := ⟨_, _, none⟩) hx').trans hc2, undrew hb9⟩)
                (first | (go_at_call 43; refine (HTq.out _).mono ?_; rintro e w1 ⟨rfl, hb9⟩))
              have hbk := hbj.trans ((undrew hb9).mono hbj.size)
              go_wp2_with fail
              go_roundw
              case rel => exact ⟨q + 1, by omega, by go_num, by rw [HS2.out], hbk⟩
              case measure => simp [intOf]; omega
          · obtain rfl : q = m := by omega
            have hTi := hT0.trans (hbi.mono hws)
            have HF : Hid (sepI l (t.take q) k = sepI l t k) := by show _ = _; rw [List.take_of_length_le (by omega)]
            have HO : Hid (sepI l t k = sepI l t k) := rfl
            generalize sepI l (t.take q) k = o at *
            clear hx hy HE HT
            cases o with
            | true =>
              have HN := hide (sepK_at hkl H.out HF.out.symm)
              go_wp2_with fail
              go_ret
              exact ⟨ret_int (by rw [HQ.out, HN.out]), hTi⟩
            | false =>
              have HN : Hid (∀ i, i < k + 1 → sepI l t i = false) := fun i hi => by
                by_cases ei : i = k
                · rw [ei]; exact HF.out.symm
                · exact H.out i (by omega)
              go_wp2_with fail
              go_roundw
              case rel => exact ⟨k + 1, by omega, by go_num, HN, hTi⟩
              case measure => simp [intOf]; omega
      · obtain rfl : k = n := by omega
        have HN := hide (sepK_no (a := l) (b := t) fun i hi => H.out i (by omega))
        clear hx hy H
        go_wp2_with fail
        go_ret
        exact ⟨ret_int (by rw [HQ.out, HN.out]), hbel⟩
theorem spec_Touches (w : World) (B : Nat) (hB : B ≤ w.heap.size) (A : Option Addr) (n c : Nat) (l : List V2) (R : RdV w B A n l) (D : Option Addr) (m d : Nat) (t : List V2) (S : RdV w B D m t) :
    Calls Try.prog 22 #[.slice A n c, .slice D m d] w fun e w' => e = .returned (.bool (touB l t)) ∧ Below w.heap.size w w' := by
  have HP := hide (spec_IsPolygon w B hB A n c l R)
  have HP2 := hide (fun (W : World) (h : Below w.heap.size w W) => spec_IsPolygon W B (Nat.le_trans hB h.size) D m d t (S.below (h.mono hB)))
  have HA := hide (fun (W : World) (h : Below w.heap.size w W) => spec_SeparatingEdge W B (Nat.le_trans hB h.size) A n c l (R.below (h.mono hB)) D m d t (S.below (h.mono hB)))
  have HC := hide (fun (W : World) (h : Below w.heap.size w W) => spec_SeparatingEdge W B (Nat.le_trans hB h.size) D m d t (S.below (h.mono hB)) A n c l (R.below (h.mono hB)))
  have HT : Hid (touB l t = (polyB l && (polyB t && (decide (sepL l t < 0) && decide (sepL t l < 0))))) := rfl
  generalize polyB l = p at *
  generalize polyB t = q at *
  generalize touB l t = r at *
  generalize sepL l t = x at *
  generalize sepL t l = y at *
  clear R S
  cases p with
  | false =>
    have HN : Hid (false = r) := by show _ = _; rw [HT.out]; rfl
    go_enter Try.func22, Try.ntmps22
    go_wp2_with fail
    refine HP.out.mono ?_
    rintro e w1 ⟨rfl, hb1⟩
    go_wp2_with fail
    go_ret
    exact ⟨ret_bool HN.out, hb1⟩
  | true =>
  cases q with
  | false =>
    have HN : Hid (false = r) := by show _ = _; rw [HT.out]; rfl
    go_enter Try.func22, Try.ntmps22
    go_wp2_with fail
    refine HP.out.mono ?_
    rintro e w1 ⟨rfl, hb1⟩
    go_wp2_with fail
    refine (HP2.out _ hb1).mono ?_
    rintro e w2 ⟨rfl, hb2⟩
    go_wp2_with fail
    go_ret
    exact ⟨ret_bool HN.out, below_then hb1 hb2⟩
  | true =>
    by_cases hx : x < 0
    case neg =>
      have hx' : decide (x < 0) = false := by simpa using hx
      have HN : Hid (false = r) := by show _ = _; rw [HT.out, hx']; rfl
      go_enter Try.func22, Try.ntmps22
      go_wp2_with fail
      refine HP.out.mono ?_
      rintro e w1 ⟨rfl, hb1⟩
      go_wp2_with fail
      refine (HP2.out _ hb1).mono ?_
      rintro e w2 ⟨rfl, hb2⟩
      have hb3 := below_then hb1 hb2
      go_wp2_with fail
      refine (HA.out _ hb3).mono ?_
      rintro e w4 ⟨rfl, hb4⟩
      go_wp2_with fail
      go_ret
      exact ⟨ret_bool HN.out, below_then hb3 hb4⟩
    have hx' : decide (x < 0) = true := by simpa using hx
    have HN : Hid (decide (y < 0) = r) := by show _ = _; rw [HT.out, hx']; simp
    go_enter Try.func22, Try.ntmps22
    go_wp2_with fail
    refine HP.out.mono ?_
    rintro e w1 ⟨rfl, hb1⟩
    go_wp2_with fail
    refine (HP2.out _ hb1).mono ?_
    rintro e w2 ⟨rfl, hb2⟩
    have hb3 := below_then hb1 hb2
    go_wp2_with fail
    refine (HA.out _ hb3).mono ?_
    rintro e w4 ⟨rfl, hb4⟩
    have hb5 := below_then hb3 hb4
    go_wp2_with fail
    refine (HC.out _ hb5).mono ?_
    rintro e w6 ⟨rfl, hb6⟩
    go_wp2_with fail
    go_ret
    exact ⟨ret_bool HN.out, below_then hb5 hb6⟩
end Go.Proofs.Ytdagomikjblgiaa
