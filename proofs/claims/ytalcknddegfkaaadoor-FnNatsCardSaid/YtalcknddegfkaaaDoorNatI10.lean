/-
  The program's natural numbers: contracts (10): combined, remaindersAfter.
-/
import Derived.Test.YtalcknddegfkaaaDoorNatI9
import Derived.Sort.AtCall
namespace Go.Proofs.YtalcknddegfkaaaDoor
open Go.RowKit
set_option linter.unusedVariables false

set_option maxHeartbeats 1600000 in
theorem impl_combined (w : World) (B : Nat) (hB : B ≤ w.heap.size) (A A' : Option Addr) (n m c c' : Nat) (xs ys : List Int) (fa fb : Int) (hn : xs.length = n) (hm : ys.length = m) (hx : Rd w B A (iv xs)) (hy : Rd w B A' (iv ys)) (hlx : Limbs xs) (hly : Limbs ys) (hmn : m ≤ n) (hl : n ≤ 10000) (hfa : -1000000000 ≤ fa ∧ fa ≤ 1000000000) (hfb : -1000000000 ≤ fb ∧ fb ≤ 1000000000) (R : Nat) (hR : (R : Int) = fa * val xs + fb * val ys) (hRB : (R : Int) < 1000000000 ^ (n + 1)) :
    Calls Tryd.prog 52 #[.slice A n c, .slice A' m c', .int .i64 fa, .int .i64 fb] w fun e w' => ∃ v, e = .returned v ∧ Own w' w.heap.size w'.heap.size 3 v (limbs R).length (iv (limbs R)) ∧ Below w.heap.size w w' := by
  have HS := hide (impl_scaled w B hB A n c xs fa hn hx (by omega) hlx hfa)
  have hv0 := val_nonneg hlx
  have hv1 := val_lt hlx
  rw [hn] at hv1
  have hfv : -(1000000000 ^ n * 1000000000) ≤ fa * val xs ∧ fa * val xs < 1000000000 ^ n * 1000000001 := by
    have h1 : -1000000000 * val xs ≤ fa * val xs := Int.mul_le_mul_of_nonneg_right hfa.1 hv0
    have h2 : fa * val xs ≤ 1000000000 * val xs := Int.mul_le_mul_of_nonneg_right hfa.2 hv0
    have hp := pow_pos' n
    omega
  have HADD := hide (fun (w1 : World) (g : Nat) (out : List Int) (hg : w.heap.size ≤ g) (hb : Below w.heap.size w w1) (hblk : Blk w1 g 3 out) (hol : out.length = n + 1) (hlo : Limbs (out.take n)) (hov : val out = fa * val xs) =>
    impl_addWhole w1 g (n + 1) (n + 1) B m c' A' out ys fb hblk hol hm (by omega) (by omega) (by simpa using hlo) (fun d hd => by
      obtain ⟨_, s1, s2⟩ := win_sign hol hlo
      rw [List.getLast?_eq_getElem?, hol, Nat.add_sub_cancel, List.getElem?_eq_getElem (by omega)] at hd
      injection hd with hd
      have t1 := s1 1000000000 (by omega)
      have t2 := s2 1000000001 (by omega)
      omega) hly hfb (hy.below (hb.mono hB)) (by have := hb.size; omega) (hy.sep (by omega)))
  have HT : Hid (∀ out : List Int, out.length = n + 1 → Limbs (out.take (n + 1 - 1)) → val out = fa * val xs + fb * val ys → trim out = limbs R) := fun out h1 h2 h3 => by
    rw [← hR] at h3
    exact trim_eq (limbs_of_val h1 (by omega) h2 (by omega) (by omega)) h3
  clear hx hy hlx hly hR hRB hv0 hv1 hfv hn hm
  go_enter Tryd.func52, Tryd.ntmps52
  go_wp2_with fail
  refine HS.out.mono ?_
  rintro e w1 ⟨g, out, rfl, hg, hblk, hol, hlo, hov, hb⟩
  have HA := hide (HADD.out w1 g out hg hb hblk hol hlo hov)
  have HOV := hide hov
  have HB := hide hb
  have hs1 := hb.size
  have hgl := hblk.lt
  clear hblk hol hlo hov hb HADD HS
  go_wp2_with fail
  refine HA.out.mono ?_
  rintro e w2 ⟨v, o2, rfl, hblk2, hol2, hlo2, hov2, ha2⟩
  have hT := HT.out o2 hol2 hlo2 (by rw [hov2, HOV.out])
  have HZ := hide (impl_cutZeros w2 g (g + 1) (some ⟨g, 0, none⟩) (n + 1) (n + 1) o2 (by have := hblk2.own (n + 1) (n + 1) (by omega); rwa [List.take_of_length_le (by omega)] at this) (Nat.le_refl _) (by unfold maxLen; omega))
  rw [hT] at HZ
  have hgl2 := hblk2.lt
  have HB2 := hide (HB.out.trans (ha2.below hg (by omega)))
  clear hT hblk2 hol2 hlo2 hov2 ha2 HA HT HOV
  go_wp2_with fail
  refine HZ.out.mono ?_
  rintro e w' ⟨v3, rfl, o, _, rfl⟩
  have HO := hide (o.wider (lo' := w.heap.size) (hi' := w2.heap.size) hg hgl2)
  clear o HZ
  go_wp2_with fail
  go_ret
  exact ⟨_, rfl, HO.out, HB2.out⟩

/-- the slice value v can be read as the number Y -/
def RdN (w : World) (v : Value) (Y : Nat) : Prop := ∃ A c, v = .slice A (limbs Y).length c ∧ Rd w w.heap.size A (iv (limbs Y))
theorem RdN.below {w w' : World} {v : Value} {Y : Nat} (h : RdN w v Y) (hb : Below w.heap.size w w') : RdN w' v Y := by
  obtain ⟨A, c, rfl, hr⟩ := h
  exact ⟨A, c, rfl, (hr.below hb).wider hb.size⟩
theorem Own.rdN {w : World} {lo hi : Nat} {E : TypeId} {v : Value} {Y : Nat} (o : Own w lo hi E v (limbs Y).length (iv (limbs Y))) : RdN w v Y := by
  obtain ⟨A, c, rfl⟩ := o.form
  exact ⟨A, c, rfl, o.rd⟩
theorem Rd.uniq {w : World} {B : Nat} {A : Option Addr} {xs ys : List Value} (h1 : Rd w B A xs) (h2 : Rd w B A ys) (hl : xs.length = ys.length) : xs = ys := by
  apply List.ext_getElem hl
  intro k k1 k2
  obtain ⟨a, e1, _, c1⟩ := h1.at_ k1
  obtain ⟨a', e2, _, c2⟩ := h2.at_ k2
  rw [e1] at e2; injection e2 with e2; subst e2
  rw [c1] at c2
  injection c2
theorem RdN.uniq {w : World} {v : Value} {X Y : Nat} (h1 : RdN w v X) (h2 : RdN w v Y) : X = Y := by
  obtain ⟨A, c, rfl, r1⟩ := h1
  obtain ⟨A', c', e, r2⟩ := h2
  injection e with e1 e2 e3
  subst e1
  exact limbs_inj (iv_inj (r1.uniq r2 (by rw [iv_len, iv_len]; exact e2)))
noncomputable def numR (v : Value) (w : World) : Nat :=
  open Classical in if h : ∃ Y, RdN w v Y then Classical.choose h else 0
theorem numR_eq {v : Value} {w : World} {Y : Nat} (h : RdN w v Y) : numR v w = Y := by
  unfold numR
  have he : ∃ Y, RdN w v Y := ⟨Y, h⟩
  rw [dif_pos he]
  exact (Classical.choose_spec he).uniq h
theorem split_lead (l : List Int) (k : Nat) (h : Limbs l) : ∃ α : Int, val l = val (l.drop k) * 1000000000 ^ k + α ∧ 0 ≤ α ∧ α < 1000000000 ^ k := by
  by_cases hk : k ≤ l.length
  · refine ⟨val (l.take k), ?_, val_nonneg (h.take k), ?_⟩
    · conv => lhs; rw [← List.take_append_drop k l, val_append, List.length_take, Nat.min_eq_left hk]
      rw [Int.mul_comm]; omega
    · have := val_lt (h.take k)
      rwa [List.length_take, Nat.min_eq_left hk] at this
  · refine ⟨val l, ?_, val_nonneg h, ?_⟩
    · rw [List.drop_of_length_le (by omega)]; simp [val]
    · exact Int.lt_of_lt_of_le (val_lt h) (pow_le' (by omega))
theorem keep4 {w w' : World} {g : Nat} {E : TypeId} {a b c d : Int} (h : Blk w g E [a, b, c, d]) (hb : Below w.heap.size w w') : w'.cell? ⟨g, 0, none⟩ = some (.int .i64 a) ∧ w'.cell? ⟨g, 1, none⟩ = some (.int .i64 b) ∧ w'.cell? ⟨g, 2, none⟩ = some (.int .i64 c) ∧ w'.cell? ⟨g, 3, none⟩ = some (.int .i64 d) ∧ Below w.heap.size w w' := by
  have h' := h.below hb h.lt
  exact ⟨h'.cell (j := 0) (by simp), h'.cell (j := 1) (by simp), h'.cell (j := 2) (by simp), h'.cell (j := 3) (by simp), hb⟩

set_option maxRecDepth 100000 in
set_option maxHeartbeats 3200000 in
theorem impl_after (w : World) (A A' : Option Addr) (c c' P Q : Nat) (hx : Rd w w.heap.size A (iv (limbs P))) (hy : Rd w w.heap.size A' (iv (limbs Q))) (hP6 : P < 1000000000 ^ 60) (hQP : Q ≤ P) (hQ0 : 0 < Q) (hP3 : 3 ≤ (limbs P).length) :
    Calls Tryd.prog 33 #[.slice A (limbs P).length c, .slice A' (limbs Q).length c'] w fun e w' => ∃ v1 v2 P2 Q2, e = .returned (.tuple #[v1, v2]) ∧ RdN w' v1 P2 ∧ RdN w' v2 Q2 ∧ Nat.gcd P2 Q2 = Nat.gcd P Q ∧ Q2 < P2 ∧ P2 ≤ Q ∧ Below w.heap.size w w' := by
  obtain ⟨n, hn⟩ : ∃ n, n = (limbs P).length := ⟨_, rfl⟩
  obtain ⟨m, hm⟩ : ∃ m, m = (limbs Q).length := ⟨_, rfl⟩
  have hn6 : n ≤ 60 := by rw [hn]; exact limbs_len.2 hP6
  have hmn : m ≤ n := by
    rw [hm]; refine limbs_len.2 (Nat.lt_of_le_of_lt hQP (limbs_len.1 (Nat.le_of_eq hn.symm)))
  have hm0 : 0 < m := by rw [hm]; exact List.length_pos_iff.2 (fun e => by have := limbs_nil.1 e; omega)
  have hlP := limbs_ok P
  have hlQ := limbs_ok Q
  have HX1 := hide (impl_leading w w.heap.size A n c n (limbs P) hn.symm hx hlP (by omega) (Nat.le_refl _) (by omega))
  have HX2 := hide (impl_leading w w.heap.size A' m c' n (limbs Q) hm.symm hy hlQ (by omega) hmn (by omega))
  obtain ⟨α, ea, α0, α1⟩ := split_lead (limbs P) (n - 2) hlP
  obtain ⟨β, eb, β0, β1⟩ := split_lead (limbs Q) (n - 2) hlQ
  have hXl := val_short (hlP.drop (n - 2)) (k := 2) (by rw [List.length_drop]; omega)
  have hYl := val_short (hlQ.drop (n - 2)) (k := 2) (by rw [List.length_drop]; omega)
  rw [val_limbs] at ea eb
  generalize val ((limbs P).drop (n - 2)) = X at *
  generalize val ((limbs Q).drop (n - 2)) = Y at *
  have hYX : Y ≤ X := by
    rcases Int.lt_or_le X Y with h | h
    · have := Int.mul_le_mul_of_nonneg_right (show X + 1 ≤ Y by omega) (Int.le_of_lt (pow_pos' (n - 2)))
      rw [Int.add_mul, Int.one_mul] at this
      omega
    · exact h
  have HSU := hide (fun w1 : World => impl_sure w1 X Y (by have := hXl.2; omega) hYX hYl.1)
  have HUSE := hide (fun (x y a1 b1 a2 b2 : Int) (h : Cof X Y x y a1 b1 a2 b2) (hb : b1 ≠ 0) => h.use hb ea eb α0 α1 β0 β1)
  have HC2 := hide (fun (x y a1 b1 a2 b2 : Int) (h : Cof X Y x y a1 b1 a2 b2) => h.c2 (by have := hXl.2; omega) hYX)
  have hPn : (P : Int) < 1000000000 ^ n := by rw [pow_cast]; exact Int.ofNat_lt.2 (limbs_len.1 (Nat.le_of_eq hn.symm))
  have HD := hide (fun (w1 : World) (h1 : Rd w1 w1.heap.size A (iv (limbs P))) (h2 : Rd w1 w1.heap.size A' (iv (limbs Q))) => impl_Div w1 w1.heap.size (Nat.le_refl _) A A' n m c c' (limbs P) (limbs Q) hn.symm hm.symm h1 h2 (by omega) (by omega) (limbs_canon P) (limbs_canon Q) hm0)
  have HCM := hide (fun (w1 : World) (h1 : Rd w1 w1.heap.size A (iv (limbs P))) (h2 : Rd w1 w1.heap.size A' (iv (limbs Q))) (fa fb : Int) (hfa : -1000000000 ≤ fa ∧ fa ≤ 1000000000) (hfb : -1000000000 ≤ fb ∧ fb ≤ 1000000000) (R : Nat) (hR : (R : Int) = fa * val (limbs P) + fb * val (limbs Q)) (hRP : R ≤ P) => impl_combined w1 w1.heap.size (Nat.le_refl _) A A' n m c c' (limbs P) (limbs Q) fa fb hn.symm hm.symm h1 h2 hlP hlQ hmn (by omega) hfa hfb R hR (Int.lt_of_le_of_lt (Int.ofNat_le.2 hRP) (Int.lt_of_lt_of_le hPn (pow_le' (Nat.le_succ n)))))
  have HRX := hide hx
  have HRY := hide hy
  have HN := hide hn
  have HM := hide hm
  rw [← hn, ← hm]
  clear hn hm hlP hlQ ea eb α0 α1 β0 β1 hXl hYl hx hy hPn hYX
  go_enter Tryd.func33, Tryd.ntmps33
  go_wp2_with fail
  refine HX1.out.mono ?_
  rintro e w' ⟨rfl, rfl⟩
  go_wp2_with fail
  refine HX2.out.mono ?_
  rintro e w' ⟨rfl, rfl⟩
  go_wp2_with fail
  refine (HSU.out w).mono ?_
  rintro e w1 ⟨x, y, a1, b1, a2, b2, rfl, HCF, hb1⟩
  obtain ⟨hc1, hc2, hc3, hc4⟩ := HCF.out.c1
  obtain ⟨hc5, hc6, hc7, hc8⟩ := HC2.out _ _ _ _ _ _ HCF.out
  obtain ⟨W, hW⟩ : ∃ W, W = w1.alloc (.cells #[.int .i64 a1, .int .i64 b1, .int .i64 a2, .int .i64 b2] 61) := ⟨_, rfl⟩
  have hkW : Blk W w1.heap.size 61 [a1, b1, a2, b2] := by rw [hW]; exact alloc_blk w1 _ [a1, b1, a2, b2] (by unfold maxLen; show 4 ≤ _; omega)
  have hbW : Below w.heap.size w W := by rw [hW]; exact hb1.alloc hb1.size _
  obtain ⟨hk0, hk1, hk2, hk3, _⟩ := keep4 hkW (Below.refl _ _)
  obtain ⟨g, hg⟩ : ∃ g, g = w1.heap.size := ⟨_, rfl⟩
  have hxW := (HRX.out.below hbW).wider hbW.size
  have hyW := (HRY.out.below hbW).wider hbW.size
  have HXW := hide hxW
  have HYW := hide hyW
  have HBW := hide hbW
  by_cases hb0 : b1 = 0
  · subst hb0
    have hr : (val (limbs P) % val (limbs Q)).toNat = P % Q := by rw [val_limbs, val_limbs, rem_nat]
    have HR := hide hr
    have HDW := hide (HD.out W hxW hyW)
    have HG2 : Hid (Nat.gcd Q (P % Q) = Nat.gcd P Q ∧ P % Q < Q) := by
      refine ⟨?_, Nat.mod_lt _ hQ0⟩
      rw [Nat.gcd_comm P Q, Nat.gcd_rec Q P, Nat.gcd_comm]
    clear hxW hyW hkW hb1 hr
    go_wp2_with fail
    rw [← hW]
    refine HDW.out.mono ?_
    rintro e w3 ⟨v1, v2, rfl, ⟨l1, h1, l2, h2, _, o2, _, hl2, _, hh2, _⟩, hb3⟩
    rw [HR.out] at o2
    have HR2 := hide (o2.rdN)
    have HB3 := hide (hbW.trans (hb3.mono hbW.size))
    have HRQ : Hid (RdN w3 (.slice A' m c') Q) := by
      refine ⟨A', c', by rw [HM.out], (HYW.out.below hb3).wider hb3.size⟩
    clear o2 hb3 hW
    go_wp2_with fail
    go_ret2
    exact ⟨_, _, Q, P % Q, rfl, HRQ.out, HR2.out, HG2.out.1, HG2.out.2, Nat.le_refl _, HB3.out⟩
  · have hbz : (b1 == 0) = false := by simp [hb0]
    obtain ⟨R1, R2, hR1, hR2, hgcd, hlt, hle⟩ := HUSE.out _ _ _ _ _ _ HCF.out hb0
    have HCA := hide (fun (w3 : World) (h : Below W.heap.size W w3) => HCM.out w3 ((HXW.out.below h).wider h.size) ((HYW.out.below h).wider h.size) a1 b1 ⟨hc1, hc2⟩ ⟨hc3, hc4⟩ R1 (by rw [val_limbs, val_limbs]; exact hR1) (by omega))
    have HCB := hide (fun (w3 : World) (h : Below W.heap.size W w3) => HCM.out w3 ((HXW.out.below h).wider h.size) ((HYW.out.below h).wider h.size) a2 b2 ⟨hc5, hc6⟩ ⟨hc7, hc8⟩ R2 (by rw [val_limbs, val_limbs]; exact hR2) (by omega))
    have HGG := hide (And.intro hgcd (And.intro hlt hle))
    have HK := hide hkW
    clear hxW hyW hbW hb1 hR1 hR2 hgcd hlt hle HCM HD HUSE HC2 HSU hb0 hkW
    go_wp2_with fail
    rw [← hW]
    rw [← hg] at hk0 hk1 hk2 hk3 HK
    rw [← hg]
    clear hW hg
    have HDR : Hid (Below W.heap.size W W.drew) := (Below.refl _ _).drew
    go_region_held3 (fun w' => w'.cell? ⟨g, 0, none⟩ = some (.int .i64 a1) ∧ w'.cell? ⟨g, 1, none⟩ = some (.int .i64 b1) ∧ w'.cell? ⟨g, 2, none⟩ = some (.int .i64 a2) ∧ w'.cell? ⟨g, 3, none⟩ = some (.int .i64 b2) ∧ Below W.heap.size W w')
      (first | (with_reducible exact keep4 HK.out (Below.refl _ _).drew) | (with_reducible exact keep4 HK.out hSA) | (with_reducible exact keep4 HK.out hSB))
      (first
        | (go_at_call_has 52 a1; refine (HCA.out _ HDR.out).mono ?_; rintro e w3 ⟨v1, rfl, o1, hbA⟩; have hSA := HDR.out.trans (Below.mono hbA HDR.out.size))
        | (go_at_call_has 52 a2; refine (HCB.out _ hSA).mono ?_; rintro e w4 ⟨v2, rfl, o2, hbB⟩; have hSB := hSA.trans (Below.mono hbB hSA.size)))
    have HR1 := hide ((o1.rdN).below hbB)
    have HR2 := hide o2.rdN
    have HB4 := hide (HBW.out.trans (Below.mono hSB HBW.out.size))
    clear o1 o2 hbA hbB hSA hSB
    go_wp2_with fail
    go_ret2
    exact ⟨_, _, R1, R2, rfl, HR1.out, HR2.out, HGG.out.1, HGG.out.2.1, HGG.out.2.2, HB4.out⟩
end Go.Proofs.YtalcknddegfkaaaDoor
