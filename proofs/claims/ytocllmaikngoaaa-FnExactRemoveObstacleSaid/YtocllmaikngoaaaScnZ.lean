/-
  The reference's scenes: contracts (5): RemoveObstacle.
-/
import Derived.Test.YtocllmaikngoaaaScnH
import Derived.Test.YtocllmaikngoaaaSB
namespace Go.Proofs.Ytocllmaikngoaaa
open Go.RowKit
set_option linter.unusedVariables false
theorem step_append_rdA {P : Program} {t e : TypeId} {size bytes : Nat} (T : SliceOf P t e size bytes) {ops : Array Oper} {o : Oper} {a : Act} {K : Act → World → Prop} {Q : Exit → Act → World → Prop} {E : Prop}
    (hgd : o.guard = none) (s x : Operand) (ho : o.op = .call { callee := .builtin .append, args := #[s, x], argTypes := #[t, t] })
    (W : World) (base : Nat) (v : Value) (n : Nat) (xs : List Value) (hown : W.ownsRow base e size v n xs) (hs : a.eval s = v)
    (B : Nat) (A : Option Addr) (m c : Nat) (news : List Value) (hx : a.eval x = .slice A m c) (hl : news.length = m * size) (R : Rd W B A news) (h1 : ∀ u ∈ news, u.oneCell' = true)
    (h63 : n + m ≤ maxLen) (hn : (n + m) * bytes ≤ 140737488355328) (hbase : base ≤ W.heap.size)
    (h : ∀ v' w', w'.ownsRow base e size v' (n + m) (xs ++ news) → Below base W w' → W.grownBy w' v.ownBlock → K (a.put o.dst v') w') :
    if Region.wanted o (yielded ops a.tmps) = true then Oper.wp P o a W K Q else E := by
  cases A with
  | some ad =>
    refine step_append_K' T hgd s x ho W base v n xs hown hs ad m c news hx hl (fun j u hu => ?_) h1 h63 hn hbase h
    rcases R with e1 | ⟨ad', e1, _, hc⟩
    · subst e1; simp at hu
    · injection e1 with e1
      subst e1
      exact hc j u hu
  | none =>
    obtain ⟨ht, i, z, hi, hz, hsize, hby, hzs, hsz⟩ := T
    have hw : Region.wanted o (yielded ops a.tmps) = true := by simp [Region.wanted, hgd]
    have hnil : news = [] := by
      rcases R with e1 | ⟨ad, e1, _⟩
      · exact e1
      · cases e1
    subst hnil
    obtain rfl : m = 0 := by
      have h0 : m * size = 0 := hl.symm
      rcases Nat.mul_eq_zero.1 h0 with h0 | h0
      · exact h0
      · omega
    rw [if_pos hw]
    have hrun := run_append_nilc (P := P) (w := W) base t o.type e i size ht hi _ n xs hown c
    have hK := h v W (by rw [List.append_nil]; exact hown) (Below.refl _ _) (World.grownBy.refl _ _)
    unfold Oper.wp
    simp [execOp, ho, resolve, invoke, builtin, hs, hx, hrun, Result.andThen]
    exact hK
/-- a scene with another row of obstacles, just built -/
theorem SOwn0.set {W W' : World} {lo hi hi' : Nat} {ES EV : TypeId} {v0 v1 v2 v3 v4 v5 v6 v : Value} {S : Scn} {A3 : Option Addr} {c3 M n : Nat} {xs : List Value} {tt : List Sl} {L : List (List V2)}
    (hne : ES ≠ EV) (h : SOwn0 W lo hi ES EV v0 v1 v2 v3 v4 v5 v6 S) (hhi : hi ≤ W.heap.size) (hr : W.ownsRow lo ES 1 v n xs) (he : ∀ t ∈ tt, OwnV W lo hi EV t.v t.vs.length t.vs)
    (hown : W'.ownsRow lo ES 1 (.slice A3 M c3) M (slv tt)) (hg : W.grownBy W' v.ownBlock) (hh' : W'.heap.size ≤ hi') (hL : cont tt = L) (hM : M = L.length) :
    SOwn0 W' lo hi' ES EV v0 v1 v2 v3 v4 (.slice A3 M c3) v6 (withO S L) := by
  obtain ⟨RA, rc, OA, oc, TA, tc, os, ⟨rfl, rfl, rfl, rfl, rfl, rfl, rfl⟩, pr, _, pt⟩ := h
  have hz := hg.size
  have kp : ∀ {v : Value} {n : Nat} {vs : List V2}, OwnV W lo hi EV v n vs → OwnV W' lo hi' EV v n vs := fun {v n vs} o =>
    (o.kept fun g hg' => hg.block g (o.1.lt g hg').2 fun e => own_types hr o.1 hne e.symm hg' rfl).wider (Nat.le_refl _) (by omega)
  subst hM
  exact ⟨RA, rc, A3, c3, TA, tc, tt, ⟨rfl, rfl, rfl, rfl, rfl, rfl, rfl⟩, kp pr, ⟨OwnR.of_row hown hh', fun t ht => kp (he t ht), hL⟩, kp pt⟩
theorem set_less {w3 u1 u2 X W' : World} {lo h0 l1 l2 : Nat} {ES EV : TypeId} {v0 v1 v2 v3 v4 v5 v6 v : Value} {S : Scn} {A3 : Option Addr} {c3 M n : Nat} {xs : List Value} {t1 t2 : List Sl} {L : List (List V2)}
    (hne : ES ≠ EV) (h : SOwn0 w3 lo h0 ES EV v0 v1 v2 v3 v4 v5 v6 S) (h1 : h0 ≤ w3.heap.size) (h2 : w3.heap.size ≤ u2.heap.size) (hs : Below w3.heap.size w3 u2) (hx : Below u2.heap.size u2 X) (hr : X.ownsRow lo ES 1 v n xs)
    (e1 : ∀ t ∈ t1, OwnV u1 l1 u1.heap.size EV t.v t.vs.length t.vs) (e2 : ∀ t ∈ t2, OwnV u2 l2 u2.heap.size EV t.v t.vs.length t.vs) (h3 : lo ≤ l1) (h4 : lo ≤ l2) (hb : Below u1.heap.size u1 X)
    (hown : W'.ownsRow lo ES 1 (.slice A3 M c3) M (slv (t1 ++ t2))) (hg : X.grownBy W' v.ownBlock) (hL : cont (t1 ++ t2) = L) (hM : M = L.length) :
    SOwn0 W' lo W'.heap.size ES EV v0 v1 v2 v3 v4 (.slice A3 M c3) v6 (withO S L) := by
  have z1 := hx.size
  have z2 := hb.size
  refine SOwn0.set (hi := X.heap.size) hne ((h.below (hs.trans (hx.mono h2)) h1).wider (Nat.le_refl _) (by omega)) (Nat.le_refl _) hr (fun t ht => ?_) hown hg (Nat.le_refl _) hL hM
  rcases List.mem_append.1 ht with ht | ht
  · exact ((e1 t ht).below hb (Nat.le_refl _)).wider h3 z2
  · exact ((e2 t ht).below hx (Nat.le_refl _)).wider h4 z1
set_option maxRecDepth 100000 in
set_option maxHeartbeats 12800000 in
theorem spec_RemoveObstacle (w : World) (B : Nat) (hB : B ≤ w.heap.size) {v0 v1 v2 v3 v4 v5 v6 : Value} {S : Scn} (h : SIn w B v0 v1 v2 v3 v4 v5 v6 S) (k : Int) (fk : (Lit.int .i64 k).wf = true) (hcap : ∃ A c, v5 = .slice A S.o.length c ∧ S.o.length ≤ c ∧ c ≤ maxLen) :
    Calls Try.prog 7 #[.agg #[v0, v1, v2, v3, v4, v5, v6], .int .i64 k] w fun e w' => SResB0 30 29 w w' e (remS S k) (remB S k) := by
  have h' := h
  obtain ⟨RA, rc, OA, oc, TA, tc, os, ⟨rfl, rfl, rfl, rfl, rfl, rfl, rfl⟩, hR, ⟨hO, hc⟩, hT, hwf⟩ := h
  obtain ⟨_, _, e5, hcp, hcm⟩ := hcap
  injection e5 with e5a e5b e5c
  subst e5a e5c
  unfold maxLen at hcm
  clear hR hT hwf e5b
  have hol := hO.1
  have hol2 := hO.2.2.1
  obtain ⟨k1, k2⟩ := bounds_i64 fk
  have V1 := hide (fun (W : World) (hb : Below w.heap.size w W) => spec_IsValidScene W B (Nat.le_trans hB hb.size) (h'.below (hb.mono hB)))
  have C1 := hide (fun (W : World) (hb : Below w.heap.size w W) => spec_l10Copy W B (Nat.le_trans hB hb.size) (h'.below (hb.mono hB)))
  unfold SRes0 at C1
  have HIN := hide (fun (W : World) => l01In_all k 0 ((S.o.length : Int) - 1) W (hasB S k) (by unfold hasB; show _ = _; rw [← Bool.decide_and]; congr 1; apply propext; omega))
  obtain ⟨b1, hb1'⟩ : ∃ b, b = scnB S := ⟨_, rfl⟩
  rw [← hb1'] at V1
  have HSV := hide hb1'
  obtain ⟨b2, hb2'⟩ : ∃ b, b = hasB S k := ⟨_, rfl⟩
  rw [← hb2'] at HIN
  have HRR : Hid (remB S k = (b1 && b2) ∧ remS S k = if (b1 && b2) then withO S (lessL S.o k.toNat) else S) := by
    rw [hb1', hb2']; exact ⟨rfl, rfl⟩
  rw [HRR.out.1, HRR.out.2]
  clear HRR HSV hb1'
  obtain ⟨W0, hW0⟩ : ∃ W0, W0 = (w.alloc (.cells #[.int .i64 S.lx, .int .i64 S.ly, .int .i64 S.hx, .int .i64 S.hy, .slice RA S.r.length rc, .slice OA S.o.length oc, .slice TA S.t.length tc] 33)).alloc (.cells #[.int .i64 0, .int .i64 0, .int .i64 0, .int .i64 0, .slice none 0 0, .slice none 0 0, .slice none 0 0] 33) := ⟨_, rfl⟩
  have hT0 : Below w.heap.size w W0 := by rw [hW0]; exact below_alloc (below_new _ _) _
  have kp : Box W0 w.heap.size 33 #[.int .i64 S.lx, .int .i64 S.ly, .int .i64 S.hx, .int .i64 S.hy, .slice RA S.r.length rc, .slice OA S.o.length oc, .slice TA S.t.length tc] := by rw [hW0]; exact (Box.last _ _ _ rfl).alloc _
  have kr : Box W0 (w.heap.size + 1) 33 #[.int .i64 0, .int .i64 0, .int .i64 0, .int .i64 0, .slice none 0 0, .slice none 0 0, .slice none 0 0] := by rw [hW0]; exact Box.last _ _ _ (alloc_size _ _).symm
  have hs0 : w.heap.size + 2 ≤ W0.heap.size := by rw [hW0, alloc_size, alloc_size]; omega
  obtain ⟨yp0, yp1, yp2, yp3, yp4, yp5, yp6⟩ := kp.cells7
  clear h'
  go_enter Try.func7, Try.ntmps7
  go_upto_region 1 with fail
  rw [← hW0]
  clear hW0
  go_wp2_with fail
  refine (C1.out _ hT0).mono ?_
  rintro e w1 ⟨q0, q1, q2, q3, q4, q5, q6, rfl, o1, hb1⟩
  obtain ⟨QA, qa, QB, qb, QC, qc, ⟨rfl, rfl, rfl, rfl, rfl, rfl, rfl⟩⟩ := o1.form
  clear yp0 yp1 yp2 yp3 yp4 yp5 yp6
  have hs1 := hb1.size
  have hT1 := below_then hT0 hb1
  have kp := kp.below hb1 kp.lt
  have kr := kr.below hb1 kr.lt
  obtain ⟨W2, hW2⟩ : ∃ W2, W2 = w1.alloc (.cells #[.int .i64 S.lx, .int .i64 S.ly, .int .i64 S.hx, .int .i64 S.hy, .slice QA S.r.length qa, .slice QB S.o.length qb, .slice QC S.t.length qc] 33) := ⟨_, rfl⟩
  have hb2 : Below w1.heap.size w1 W2 := by rw [hW2]; exact below_new _ _
  have kn : Box W2 w1.heap.size 33 #[.int .i64 S.lx, .int .i64 S.ly, .int .i64 S.hx, .int .i64 S.hy, .slice QA S.r.length qa, .slice QB S.o.length qb, .slice QC S.t.length qc] := by rw [hW2]; exact Box.last _ _ _ rfl
  have hq2 : w1.heap.size + 1 ≤ W2.heap.size := by rw [hW2, alloc_size]; omega
  have hT2 := below_then hT1 hb2
  have kp := kp.below hb2 kp.lt
  have kr := kr.below hb2 kr.lt
  have oN := o1.below hb2 (Nat.le_refl _)
  clear hb1 hb2 hT0 hT1 o1
  go_upto_region 2 with fail
  rw [← hW2]
  clear hW2
  obtain ⟨yp0, yp1, yp2, yp3, yp4, yp5, yp6⟩ := kp.cells7
  go_wp2_with fail
  refine (V1.out _ hT2).mono ?_
  rintro e w3 ⟨rfl, hb3⟩
  clear yp0 yp1 yp2 yp3 yp4 yp5 yp6
  have hT3 := below_then hT2 hb3
  have hs3 := hb3.size
  have kp := kp.below hb3 kp.lt
  have kn := kn.below hb3 kn.lt
  have kr := kr.below hb3 kr.lt
  have oN := oN.below hb3 (by omega)
  clear hb3 hT2
  cases b1 with
  | false =>
    clear hO hc hol HIN hb2'
    obtain ⟨yn0, yn1, yn2, yn3, yn4, yn5, yn6⟩ := kn.cells7
    have HKR := hide kr
    obtain ⟨yr0, yr1, yr2, yr3, yr4, yr5, yr6⟩ := HKR.out.cells7
    obtain ⟨zr0, zr1, zr2, zr3, zr4, zr5, zr6⟩ := HKR.out.frz7
    have HOQ := hide oN
    have HTQ := hide hT3
    clear kp kn kr oN hT3
    go_wp2_with fail
    obtain ⟨r1, r2, r3⟩ := ret_scn0 HKR.out HOQ.out HTQ.out (by omega) (by omega) (by omega) (.inl (by omega))
    refine bodyPost_ret (results_cell_tmp rfl _ _ (w.heap.size + 1) _ #[.int .i64 S.lx, .int .i64 S.ly, .int .i64 S.hx, .int .i64 S.hy, .slice QA S.r.length qa, .slice QB S.o.length qb, .slice QC S.t.length qc] (0, 0) _ rfl r1 Try.underlying33 rfl Try.sizeScn) rfl ?_
    exact ⟨_, _, _, _, _, _, _, rfl, r2, r3⟩
  | true =>
    cases b2 with
    | false =>
      clear hO hc hol hb2'
      obtain ⟨yp0, yp1, yp2, yp3, yp4, yp5, yp6⟩ := kp.cells7
      go_wp2_with fail
      refine (HIN.out _).mono ?_
      rintro e w4 ⟨rfl, rfl⟩
      clear yp0 yp1 yp2 yp3 yp4 yp5 yp6
      obtain ⟨yn0, yn1, yn2, yn3, yn4, yn5, yn6⟩ := kn.cells7
      have HKR := hide kr
      obtain ⟨yr0, yr1, yr2, yr3, yr4, yr5, yr6⟩ := HKR.out.cells7
      obtain ⟨zr0, zr1, zr2, zr3, zr4, zr5, zr6⟩ := HKR.out.frz7
      have HOQ := hide oN
      have HTQ := hide hT3
      clear kp kn kr oN hT3
      go_wp2_with fail
      obtain ⟨r1, r2, r3⟩ := ret_scn0 HKR.out HOQ.out HTQ.out (by omega) (by omega) (by omega) (.inl (by omega))
      refine bodyPost_ret (results_cell_tmp rfl _ _ (w.heap.size + 1) _ #[.int .i64 S.lx, .int .i64 S.ly, .int .i64 S.hx, .int .i64 S.hy, .slice QA S.r.length qa, .slice QB S.o.length qb, .slice QC S.t.length qc] (0, 0) _ rfl r1 Try.underlying33 rfl Try.sizeScn) rfl ?_
      exact ⟨_, _, _, _, _, _, _, rfl, r2, r3⟩
    | true =>
      have hkr : 0 ≤ k ∧ k < (S.o.length : Int) := by unfold hasB at hb2'; simpa using hb2'.symm
      obtain ⟨i, rfl⟩ : ∃ i : Nat, k = (i : Int) := ⟨k.toNat, by omega⟩
      have hin : i < S.o.length := by omega
      clear hkr hb2'
      obtain ⟨yp0, yp1, yp2, yp3, yp4, yp5, yp6⟩ := kp.cells7
      go_wp2_with fail
      refine (HIN.out _).mono ?_
      rintro e w4 ⟨rfl, rfl⟩
      obtain ⟨ad, hA, hb8, hc8, _⟩ := hO.at_ (show i < os.length by omega)
      subst hA
      have hI : IntKind.i64.wrap ((i : Int) + 1) = ((i + 1 : Nat) : Int) := by rw [IntWalk.i64_in _ ⟨by omega, by omega⟩]; omega
      have HNM : Hid (i + (S.o.length - (i + 1)) = S.o.length - 1) := by show _ = _; omega
      have hio : i ≤ oc := by omega
      have hjo : i + 1 ≤ oc := by omega
      have hjn : i + 1 ≤ S.o.length := by omega
      have hij : i < i + 1 := by omega
      rcases Nat.lt_or_ge (i + 1) oc with hq | hq
      · have hq0 : ¬ oc = i + 1 := by omega
        have hq1 : ¬ oc - (i + 1) = 0 := by omega
        have hq2 : ¬ i + 1 = oc := by omega
        go_upto_region 4 with fail
        have HLA := hide (fun (W : World) (hb : Below w.heap.size w W) => spec_l10Lists W B (Nat.le_trans hB hb.size) (some ad) i oc (os.take i) ((hO.below (hb.mono hB)).take (by omega)))
        have HT3 := hide hT3
        have HLB := hide (fun (W : World) (hb : Below w.heap.size w W) => spec_l10Lists W B (Nat.le_trans hB hb.size) (some ⟨ad.block, ad.off + (i + 1), none⟩) (S.o.length - (i + 1)) (oc - (i + 1)) (os.drop (i + 1)) (have h9 := (hO.below (hb.mono hB)).drop (k := i + 1) (by omega); by rw [show ad.add (i + 1) = ⟨ad.block, ad.off + (i + 1), none⟩ from if_neg (by omega)] at h9; exact h9))
        have HKS := hide (fun (W : World) (hq : Below w3.heap.size w3 W) => (show W.cell? ⟨w.heap.size, 5, none⟩ = some (.slice (some ad) S.o.length oc) from (kp.below hq kp.lt).cell 5))
        have HKT := hide (fun (W : World) (hq : Box W w.heap.size 33 #[.int .i64 S.lx, .int .i64 S.ly, .int .i64 S.hx, .int .i64 S.hy, .slice RA S.r.length rc, .slice (some ad) S.o.length oc, .slice TA S.t.length tc]) (x : Value) => (show (W.setCell ⟨w1.heap.size, 5, none⟩ x).cell? ⟨w.heap.size, 5, none⟩ = some (.slice (some ad) S.o.length oc) from (hq.setv (show w.heap.size ≠ w1.heap.size by omega) 5 x).cell 5))
        have HKN := hide kn
        clear kn yp0 yp1 yp2 yp3 yp4 yp6
        go_region_held_law (fun w' => w'.cell? ⟨w.heap.size, 5, none⟩ = some (.slice (some ad) S.o.length oc))
          (first | (with_reducible exact HKT.out _ HALL.out.1 _) | (with_reducible exact HKU.out) | (refine HKS.out _ ?_; repeat (first | (with_reducible exact Below.refl _ _) | (with_reducible exact HS2.out) | (with_reducible exact HS1.out) | (with_reducible refine Below.drew ?_) | (with_reducible refine below_alloc ?_ _))))
          (first
          | (go_at_call 27; have HX := HS1.out; refine (HLB.out _ (below_then HT3.out (by first | exact HX | exact HX.drew))).mono ?_; rintro e u2 ⟨v2, t2, rfl, o2, ct2, hb2⟩; have o2 : OwnSS u2 u1.heap.size u2.heap.size 30 29 v2 (S.o.length - (i + 1)) t2 := o2; have hb2 : Below u1.heap.size u1 u2 := (by first | exact hb2 | exact undrew hb2); obtain ⟨A2, c2, rfl⟩ := o2.form; have hz2 := hb2.size; have HS2 := hide (below_then HX hb2); clear HX; have HAP := hide (fun (X : World) (hx : Below u2.heap.size u2 X) => (⟨own_lower (own_grown (own_grown o1.1.1 hb2) hx) (by omega), (o2.1.rdB (Nat.le_refl _)).below hx⟩ : X.ownsRow W0.heap.size 30 1 (.slice A1 i c1) i (slv t1) ∧ Rd X u2.heap.size A2 (slv t2))); have HL : Hid (cont (t1 ++ t2) = lessL S.o i ∧ S.o.length - 1 = (lessL S.o i).length) := ⟨by rw [show cont (t1 ++ t2) = cont t1 ++ cont t2 from by simp [cont], ct1, ct2, ← hc]; simp [cont, lessL], (lessL_len hin).symm⟩; have HMORE := hide (fun (X : World) (hx : Below u2.heap.size u2 X) (u3 : World) (A3 : Option Addr) (c3 : Nat) (hown : u3.ownsRow W0.heap.size 30 1 (.slice A3 (S.o.length - 1) c3) (S.o.length - 1) (slv (t1 ++ t2))) (hg : X.grownBy u3 (Value.slice A1 i c1).ownBlock) => (show SOwn0 u3 W0.heap.size u3.heap.size 30 29 (.int .i64 S.lx) (.int .i64 S.ly) (.int .i64 S.hx) (.int .i64 S.hy) (.slice QA S.r.length qa) (.slice A3 (S.o.length - 1) c3) (.slice QC S.t.length qc) (withO S (lessL S.o i)) from set_less Try.types_ne oN (by omega) (by omega) HS2.out hx (HAP.out X hx).1 o1.2.1 o2.2.1 (by omega) (by omega) (hb2.trans (hx.mono hz2)) hown hg HL.out.1 HL.out.2)); have HG1 := hide (fun (g : Nat) (e : (Value.slice A1 i c1).ownBlock = some g) => (o1.1.1.lt g e).1); have HPK := hide (fun (W : World) (hW : Below w3.heap.size w3 W) (u3 : World) (hb : Below W0.heap.size W u3) => (⟨(kp.below hW kp.lt).below hb (by omega), (kr.below hW kr.lt).below hb (by omega), (HT3.out.trans (hW.mono (by omega))).trans (hb.mono (by omega))⟩ : Box u3 w.heap.size 33 #[.int .i64 S.lx, .int .i64 S.ly, .int .i64 S.hx, .int .i64 S.hy, .slice RA S.r.length rc, .slice (some ad) S.o.length oc, .slice TA S.t.length tc] ∧ Box u3 (w.heap.size + 1) 33 #[.int .i64 0, .int .i64 0, .int .i64 0, .int .i64 0, .slice none 0 0, .slice none 0 0, .slice none 0 0] ∧ Below w.heap.size w u3)); have HO2 := hide o2.1.len)
          | (go_at_call 27; refine (HLA.out _ (by first | exact HT3.out | exact HT3.out.drew)).mono ?_; rintro e u1 ⟨v1, t1, rfl, o1, ct1, hb1⟩; have o1 : OwnSS u1 w3.heap.size u1.heap.size 30 29 v1 i t1 := o1; have hb1 : Below w3.heap.size w3 u1 := (by first | exact hb1 | exact undrew hb1); obtain ⟨A1, c1, rfl⟩ := o1.form; have hz1 := hb1.size; have HS1 := hide hb1; (try rw [hI]))
          | (refine step_append_rdA Try.sliceVecS rfl _ _ rfl _ W0.heap.size _ i (slv t1) (HAP.out _ (by repeat (first | (with_reducible exact Below.refl _ _) | (with_reducible refine Below.drew ?_) | (with_reducible refine below_alloc ?_ _)))).1 rfl u2.heap.size A2 (S.o.length - (i + 1)) c2 (slv t2) rfl (by rw [slv_len, HO2.out, Nat.mul_one]) (HAP.out _ (by repeat (first | (with_reducible exact Below.refl _ _) | (with_reducible refine Below.drew ?_) | (with_reducible refine below_alloc ?_ _)))).2 (slv_one _) (by unfold maxLen; omega) (by omega) (by first | omega | ((repeat (first | (simp only [alloc_size]) | (simp only [drew_size]))); first | done | omega)) ?_; intro v3 u3 hown3 hb3 hg3; rw [HNM.out, ← slv_append] at hown3; obtain ⟨A3, c3, rfl⟩ := own_shape hown3; have HSO := hide (HMORE.out _ (by repeat (first | (with_reducible exact Below.refl _ _) | (with_reducible refine Below.drew ?_) | (with_reducible refine below_alloc ?_ _))) u3 A3 c3 hown3 hg3); have kN := (show Box u3 w1.heap.size 33 #[.int .i64 S.lx, .int .i64 S.ly, .int .i64 S.hx, .int .i64 S.hy, .slice QA S.r.length qa, .slice QB S.o.length qb, .slice QC S.t.length qc] from (hg3.block w1.heap.size (by first | omega | ((repeat (first | (simp only [alloc_size]) | (simp only [drew_size]))); omega)) (fun e8 => by have h9 := HG1.out _ e8.symm; omega)).trans (HKN.out.below (by repeat (first | (with_reducible exact Below.refl _ _) | (with_reducible exact HS2.out) | (with_reducible refine Below.drew ?_) | (with_reducible refine below_alloc ?_ _))) HKN.out.lt)); have HALL := hide (HPK.out _ (by repeat (first | (with_reducible exact Below.refl _ _) | (with_reducible exact HS2.out) | (with_reducible refine Below.drew ?_) | (with_reducible refine below_alloc ?_ _))) u3 hb3); have HKU := hide (show u3.cell? ⟨w.heap.size, 5, none⟩ = some (.slice (some ad) S.o.length oc) from HALL.out.1.cell 5); obtain ⟨m0, m1, m2, m3, m4, m5, m6⟩ := kN.cells7; obtain ⟨f0, f1, f2, f3, f4, f5, f6⟩ := kN.frz7))
        all_goals
          obtain ⟨kp, kr, hT5⟩ := HALL.out
          have kn0 := kN
          have oN0 := HSO.out
          have hz3 : w1.heap.size < u3.heap.size := kN.lt
          have hzw := hT5.size
          try clear hc8; try clear hI; try clear hq; try clear hq0; try clear hq1; try clear hq2; try clear hio; try clear hjo; try clear hjn; try clear hij; try clear HL; try clear HNM; try clear HG1; try clear HO2; try clear o1; try clear o2; try clear ct1; try clear ct2; try clear hb1; try clear hb2; try clear hO; try clear hc; try clear hol; try clear yp5; try clear HLA; try clear HLB; try clear V1; try clear C1; try clear HIN; try clear HKU; try clear HALL; try clear kN; try clear HSO; try clear HMORE; try clear HPK; try clear HKN; try clear HAP; try clear hown3; try clear hb3; try clear hg3; try clear m0; try clear m1; try clear m2; try clear m3; try clear m4; try clear m6; try clear HS1; try clear HKS; try clear HKT
          obtain ⟨W3, hW3⟩ : ∃ W3, W3 = u3.setCell ⟨w1.heap.size, 5, none⟩ (.slice A3 (S.o.length - 1) c3) := ⟨_, rfl⟩
          have ha3 : Aside w1.heap.size (w1.heap.size + 1) u3 W3 := by rw [hW3]; exact (Aside.refl _).setCell (a := ⟨w1.heap.size, 5, none⟩) (Nat.le_refl _) (Nat.lt_succ_self _) _
          have kn : Box W3 w1.heap.size 33 #[.int .i64 S.lx, .int .i64 S.ly, .int .i64 S.hx, .int .i64 S.hy, .slice QA S.r.length qa, .slice A3 (S.o.length - 1) c3, .slice QC S.t.length qc] := by rw [hW3]; exact kn0.set 5 _
          rw [← hW3]
          have hs9 : W3.heap.size = u3.heap.size := by rw [hW3, setCell_size]
          clear hW3 m5
          have kp := kp.aside ha3 (by omega)
          have kr := kr.aside ha3 (by omega)
          have hT6 := hT5.trans (ha3.below (by omega) (by omega))
          have oN := (oN0.keptBox kn0 Try.types_scn.1 Try.types_scn.2 ha3).wider (lo' := W0.heap.size) (hi' := W3.heap.size) (Nat.le_refl _) (by omega)
          clear ha3 kn0 oN0 hT5
          obtain ⟨yn0, yn1, yn2, yn3, yn4, yn5, yn6⟩ := kn.cells7
          have HKR := hide kr
          obtain ⟨yr0, yr1, yr2, yr3, yr4, yr5, yr6⟩ := HKR.out.cells7
          obtain ⟨zr0, zr1, zr2, zr3, zr4, zr5, zr6⟩ := HKR.out.frz7
          have HOQ := hide oN
          have HTQ := hide hT6
          clear kp kn kr oN hT6
          go_wp2_with fail
          obtain ⟨r1, r2, r3⟩ := ret_scn0 HKR.out HOQ.out HTQ.out (by omega) (by omega) (by omega) (.inl (by omega))
          refine bodyPost_ret (results_cell_tmp rfl _ _ (w.heap.size + 1) _ #[.int .i64 S.lx, .int .i64 S.ly, .int .i64 S.hx, .int .i64 S.hy, .slice QA S.r.length qa, .slice A3 (S.o.length - 1) c3, .slice QC S.t.length qc] (0, 0) _ rfl r1 Try.underlying33 rfl Try.sizeScn) rfl ?_
          exact ⟨_, _, _, _, _, _, _, rfl, r2, r3⟩
      · obtain rfl : oc = i + 1 := by omega
        clear hq hjo hio
        go_upto_region 4 with fail
        have HLA := hide (fun (W : World) (hb : Below w.heap.size w W) => spec_l10Lists W B (Nat.le_trans hB hb.size) (some ad) i (i + 1) (os.take i) ((hO.below (hb.mono hB)).take (by omega)))
        have HT3 := hide hT3
        have HLB := hide (fun (W : World) (hb : Below w.heap.size w W) => spec_l10Lists W B (Nat.le_trans hB hb.size) (some ad) 0 0 [] ⟨rfl, .inl rfl, by omega, fun s hs => by simp at hs⟩)
        have HNM : Hid (i + 0 = S.o.length - 1) := by show _ = _; omega
        have hdr : (cont os).drop (i + 1) = [] := List.drop_eq_nil_of_le (by rw [cont_len]; omega)
        have HDR := hide hdr
        clear hdr
        have HKS := hide (fun (W : World) (hq : Below w3.heap.size w3 W) => (show W.cell? ⟨w.heap.size, 5, none⟩ = some (.slice (some ad) S.o.length (i + 1)) from (kp.below hq kp.lt).cell 5))
        have HKT := hide (fun (W : World) (hq : Box W w.heap.size 33 #[.int .i64 S.lx, .int .i64 S.ly, .int .i64 S.hx, .int .i64 S.hy, .slice RA S.r.length rc, .slice (some ad) S.o.length (i + 1), .slice TA S.t.length tc]) (x : Value) => (show (W.setCell ⟨w1.heap.size, 5, none⟩ x).cell? ⟨w.heap.size, 5, none⟩ = some (.slice (some ad) S.o.length (i + 1)) from (hq.setv (show w.heap.size ≠ w1.heap.size by omega) 5 x).cell 5))
        have HKN := hide kn
        clear kn yp0 yp1 yp2 yp3 yp4 yp6
        go_region_held_law (fun w' => w'.cell? ⟨w.heap.size, 5, none⟩ = some (.slice (some ad) S.o.length (i + 1)))
          (first | (with_reducible exact HKT.out _ HALL.out.1 _) | (with_reducible exact HKU.out) | (refine HKS.out _ ?_; repeat (first | (with_reducible exact Below.refl _ _) | (with_reducible exact HS2.out) | (with_reducible exact HS1.out) | (with_reducible refine Below.drew ?_) | (with_reducible refine below_alloc ?_ _))))
          (first
          | (go_at_call 27; have HX := HS1.out; refine (HLB.out _ (below_then HT3.out (by first | exact HX | exact HX.drew))).mono ?_; rintro e u2 ⟨v2, t2, rfl, o2, ct2, hb2⟩; have o2 : OwnSS u2 u1.heap.size u2.heap.size 30 29 v2 0 t2 := o2; have hb2 : Below u1.heap.size u1 u2 := (by first | exact hb2 | exact undrew hb2); obtain ⟨A2, c2, rfl⟩ := o2.form; have hz2 := hb2.size; have HS2 := hide (below_then HX hb2); clear HX; have HAP := hide (fun (X : World) (hx : Below u2.heap.size u2 X) => (⟨own_lower (own_grown (own_grown o1.1.1 hb2) hx) (by omega), (o2.1.rdB (Nat.le_refl _)).below hx⟩ : X.ownsRow W0.heap.size 30 1 (.slice A1 i c1) i (slv t1) ∧ Rd X u2.heap.size A2 (slv t2))); have HL : Hid (cont (t1 ++ t2) = lessL S.o i ∧ S.o.length - 1 = (lessL S.o i).length) := ⟨by rw [show cont (t1 ++ t2) = cont t1 ++ cont t2 from by simp [cont], ct1, ct2, ← hc]; simp only [lessL]; rw [HDR.out]; simp [cont], (lessL_len hin).symm⟩; have HMORE := hide (fun (X : World) (hx : Below u2.heap.size u2 X) (u3 : World) (A3 : Option Addr) (c3 : Nat) (hown : u3.ownsRow W0.heap.size 30 1 (.slice A3 (S.o.length - 1) c3) (S.o.length - 1) (slv (t1 ++ t2))) (hg : X.grownBy u3 (Value.slice A1 i c1).ownBlock) => (show SOwn0 u3 W0.heap.size u3.heap.size 30 29 (.int .i64 S.lx) (.int .i64 S.ly) (.int .i64 S.hx) (.int .i64 S.hy) (.slice QA S.r.length qa) (.slice A3 (S.o.length - 1) c3) (.slice QC S.t.length qc) (withO S (lessL S.o i)) from set_less Try.types_ne oN (by omega) (by omega) HS2.out hx (HAP.out X hx).1 o1.2.1 o2.2.1 (by omega) (by omega) (hb2.trans (hx.mono hz2)) hown hg HL.out.1 HL.out.2)); have HG1 := hide (fun (g : Nat) (e : (Value.slice A1 i c1).ownBlock = some g) => (o1.1.1.lt g e).1); have HPK := hide (fun (W : World) (hW : Below w3.heap.size w3 W) (u3 : World) (hb : Below W0.heap.size W u3) => (⟨(kp.below hW kp.lt).below hb (by omega), (kr.below hW kr.lt).below hb (by omega), (HT3.out.trans (hW.mono (by omega))).trans (hb.mono (by omega))⟩ : Box u3 w.heap.size 33 #[.int .i64 S.lx, .int .i64 S.ly, .int .i64 S.hx, .int .i64 S.hy, .slice RA S.r.length rc, .slice (some ad) S.o.length (i + 1), .slice TA S.t.length tc] ∧ Box u3 (w.heap.size + 1) 33 #[.int .i64 0, .int .i64 0, .int .i64 0, .int .i64 0, .slice none 0 0, .slice none 0 0, .slice none 0 0] ∧ Below w.heap.size w u3)); have HO2 := hide o2.1.len)
          | (go_at_call 27; refine (HLA.out _ (by first | exact HT3.out | exact HT3.out.drew)).mono ?_; rintro e u1 ⟨v1, t1, rfl, o1, ct1, hb1⟩; have o1 : OwnSS u1 w3.heap.size u1.heap.size 30 29 v1 i t1 := o1; have hb1 : Below w3.heap.size w3 u1 := (by first | exact hb1 | exact undrew hb1); obtain ⟨A1, c1, rfl⟩ := o1.form; have hz1 := hb1.size; have HS1 := hide hb1; (try rw [hI]))
          | (refine step_append_rdA Try.sliceVecS rfl _ _ rfl _ W0.heap.size _ i (slv t1) (HAP.out _ (by repeat (first | (with_reducible exact Below.refl _ _) | (with_reducible refine Below.drew ?_) | (with_reducible refine below_alloc ?_ _)))).1 rfl u2.heap.size A2 0 c2 (slv t2) rfl (by rw [slv_len, HO2.out, Nat.mul_one]) (HAP.out _ (by repeat (first | (with_reducible exact Below.refl _ _) | (with_reducible refine Below.drew ?_) | (with_reducible refine below_alloc ?_ _)))).2 (slv_one _) (by unfold maxLen; omega) (by omega) (by first | omega | ((repeat (first | (simp only [alloc_size]) | (simp only [drew_size]))); first | done | omega)) ?_; intro v3 u3 hown3 hb3 hg3; rw [HNM.out, ← slv_append] at hown3; obtain ⟨A3, c3, rfl⟩ := own_shape hown3; have HSO := hide (HMORE.out _ (by repeat (first | (with_reducible exact Below.refl _ _) | (with_reducible refine Below.drew ?_) | (with_reducible refine below_alloc ?_ _))) u3 A3 c3 hown3 hg3); have kN := (show Box u3 w1.heap.size 33 #[.int .i64 S.lx, .int .i64 S.ly, .int .i64 S.hx, .int .i64 S.hy, .slice QA S.r.length qa, .slice QB S.o.length qb, .slice QC S.t.length qc] from (hg3.block w1.heap.size (by first | omega | ((repeat (first | (simp only [alloc_size]) | (simp only [drew_size]))); omega)) (fun e8 => by have h9 := HG1.out _ e8.symm; omega)).trans (HKN.out.below (by repeat (first | (with_reducible exact Below.refl _ _) | (with_reducible exact HS2.out) | (with_reducible refine Below.drew ?_) | (with_reducible refine below_alloc ?_ _))) HKN.out.lt)); have HALL := hide (HPK.out _ (by repeat (first | (with_reducible exact Below.refl _ _) | (with_reducible exact HS2.out) | (with_reducible refine Below.drew ?_) | (with_reducible refine below_alloc ?_ _))) u3 hb3); have HKU := hide (show u3.cell? ⟨w.heap.size, 5, none⟩ = some (.slice (some ad) S.o.length (i + 1)) from HALL.out.1.cell 5); obtain ⟨m0, m1, m2, m3, m4, m5, m6⟩ := kN.cells7; obtain ⟨f0, f1, f2, f3, f4, f5, f6⟩ := kN.frz7))
        all_goals
          obtain ⟨kp, kr, hT5⟩ := HALL.out
          have kn0 := kN
          have oN0 := HSO.out
          have hz3 : w1.heap.size < u3.heap.size := kN.lt
          have hzw := hT5.size
          try clear hc8; try clear hI; try clear hq; try clear hq0; try clear hq1; try clear hq2; try clear hio; try clear hjo; try clear hjn; try clear hij; try clear HL; try clear HNM; try clear HDR; try clear HG1; try clear HO2; try clear o1; try clear o2; try clear ct1; try clear ct2; try clear hb1; try clear hb2; try clear hO; try clear hc; try clear hol; try clear yp5; try clear HLA; try clear HLB; try clear V1; try clear C1; try clear HIN; try clear HKU; try clear HALL; try clear kN; try clear HSO; try clear HMORE; try clear HPK; try clear HKN; try clear HAP; try clear hown3; try clear hb3; try clear hg3; try clear m0; try clear m1; try clear m2; try clear m3; try clear m4; try clear m6; try clear HS1; try clear HKS; try clear HKT
          obtain ⟨W3, hW3⟩ : ∃ W3, W3 = u3.setCell ⟨w1.heap.size, 5, none⟩ (.slice A3 (S.o.length - 1) c3) := ⟨_, rfl⟩
          have ha3 : Aside w1.heap.size (w1.heap.size + 1) u3 W3 := by rw [hW3]; exact (Aside.refl _).setCell (a := ⟨w1.heap.size, 5, none⟩) (Nat.le_refl _) (Nat.lt_succ_self _) _
          have kn : Box W3 w1.heap.size 33 #[.int .i64 S.lx, .int .i64 S.ly, .int .i64 S.hx, .int .i64 S.hy, .slice QA S.r.length qa, .slice A3 (S.o.length - 1) c3, .slice QC S.t.length qc] := by rw [hW3]; exact kn0.set 5 _
          rw [← hW3]
          have hs9 : W3.heap.size = u3.heap.size := by rw [hW3, setCell_size]
          clear hW3 m5
          have kp := kp.aside ha3 (by omega)
          have kr := kr.aside ha3 (by omega)
          have hT6 := hT5.trans (ha3.below (by omega) (by omega))
          have oN := (oN0.keptBox kn0 Try.types_scn.1 Try.types_scn.2 ha3).wider (lo' := W0.heap.size) (hi' := W3.heap.size) (Nat.le_refl _) (by omega)
          clear ha3 kn0 oN0 hT5
          obtain ⟨yn0, yn1, yn2, yn3, yn4, yn5, yn6⟩ := kn.cells7
          have HKR := hide kr
          obtain ⟨yr0, yr1, yr2, yr3, yr4, yr5, yr6⟩ := HKR.out.cells7
          obtain ⟨zr0, zr1, zr2, zr3, zr4, zr5, zr6⟩ := HKR.out.frz7
          have HOQ := hide oN
          have HTQ := hide hT6
          clear kp kn kr oN hT6
          go_wp2_with fail
          obtain ⟨r1, r2, r3⟩ := ret_scn0 HKR.out HOQ.out HTQ.out (by omega) (by omega) (by omega) (.inl (by omega))
          refine bodyPost_ret (results_cell_tmp rfl _ _ (w.heap.size + 1) _ #[.int .i64 S.lx, .int .i64 S.ly, .int .i64 S.hx, .int .i64 S.hy, .slice QA S.r.length qa, .slice A3 (S.o.length - 1) c3, .slice QC S.t.length qc] (0, 0) _ rfl r1 Try.underlying33 rfl Try.sizeScn) rfl ?_
          exact ⟨_, _, _, _, _, _, _, rfl, r2, r3⟩
end Go.Proofs.Ytocllmaikngoaaa
