/-
  The program's big integers: contracts (9): order, Cmp.
-/
import Derived.Test.YtnbaookdeijhhaaBigI6
namespace Go.Proofs.Ytnbaookdeijhhaa
open Go.RowKit
set_option linter.unusedVariables false

theorem big_pos {xs : List Int} (h : bigB true xs = true) : 0 < val xs := by
  have hn := bigB_nat h
  have h0 := natB_zero hn
  have hv := natV_val hn
  unfold bigB at h
  simp only [hn, h0, Bool.true_and] at h
  have : natV xs ≠ 0 := by intro e; simp [e] at h
  omega
theorem cmpV_swap (a b : Int) : cmpV (-a) (-b) = cmpV b a := by unfold cmpV; split <;> split <;> (try split) <;> omega
set_option maxHeartbeats 800000 in
theorem impl_order (w : World) (B : Nat) (hB : B ≤ w.heap.size) (s : Bool) (A : Option Addr) (n c : Nat) (xs : List Int) (Rx : RdI w B A n xs) (hx : bigB s xs = true) (t : Bool) (A' : Option Addr) (m c' : Nat) (ys : List Int) (Ry : RdI w B A' m ys) (hy : bigB t ys = true) :
    Calls Try.prog 107 #[.agg #[.slice A n c, .bool s], .agg #[.slice A' m c', .bool t]] w fun e w' => e = .returned (.int .i64 (cmpV (zv s xs) (zv t ys))) ∧ Below w.heap.size w w' := by
  have hb0 : Below w.heap.size w ((w.alloc (.cells #[.slice A n c, .bool s] 92)).alloc (.cells #[.slice A' m c', .bool t] 92)) := below_alloc (below_new _ _) _
  have R0 := Rx.below (hb0.mono hB)
  have R1 := Ry.below (hb0.mono hB)
  have hxc := ((natB_iff xs).1 (bigB_nat hx)).1
  have hyc := ((natB_iff ys).1 (bigB_nat hy)).1
  have hl0 := Rx.2.2.1
  have hl1 := Ry.2.2.1
  have HC1 := hide (impl_compare _ B A A' n m c c' xs ys R0.1 R1.1 R0.2.1 R1.2.1 (by omega) (by omega) hxc hyc)
  have HC2 := hide (impl_compare _ B A' A m n c' c ys xs R1.1 R0.1 R1.2.1 R0.2.1 (by omega) (by omega) hyc hxc)
  have hvx := natV_nonneg (bigB_nat hx)
  have hvy := natV_nonneg (bigB_nat hy)
  cases s
  · cases t
    · have hz : cmpV (zv false xs) (zv false ys) = cmpV (val xs) (val ys) := rfl
      rw [hz]
      clear hz R0 R1 HC2
      go_enter Try.func107, Try.ntmps107
      go_wp2_with fail
      refine HC1.out.mono ?_
      rintro e w1 ⟨rfl, hd⟩
      have hb1 : Below w.heap.size w w1 := by obtain ⟨d, rfl⟩ := hd; exact below_drewN hb0 d
      clear hd
      go_wp2_with fail
      go_ret
      exact ⟨rfl, hb1⟩
    · have hp := big_pos hy
      have hz : cmpV (zv false xs) (zv true ys) = 1 := by
        show cmpV (val xs) (-val ys) = 1
        exact cmpV_gt (by omega)
      rw [hz]
      clear hz R0 R1 HC1 HC2
      go_enter Try.func107, Try.ntmps107
      go_wp2_with fail
      go_ret
      exact ⟨rfl, hb0⟩
  · cases t
    · have hp := big_pos hx
      have hz : cmpV (zv true xs) (zv false ys) = -1 := by
        show cmpV (-val xs) (val ys) = -1
        exact cmpV_lt (by omega)
      rw [hz]
      clear hz R0 R1 HC1 HC2
      go_enter Try.func107, Try.ntmps107
      go_wp2_with fail
      go_ret
      exact ⟨rfl, hb0⟩
    · have hz : cmpV (zv true xs) (zv true ys) = cmpV (val ys) (val xs) := cmpV_swap _ _
      rw [hz]
      clear hz R0 R1 HC1
      go_enter Try.func107, Try.ntmps107
      go_wp2_with fail
      refine HC2.out.mono ?_
      rintro e w1 ⟨rfl, hd⟩
      have hb1 : Below w.heap.size w w1 := by obtain ⟨d, rfl⟩ := hd; exact below_drewN hb0 d
      clear hd
      go_wp2_with fail
      go_ret
      exact ⟨rfl, hb1⟩

set_option maxHeartbeats 3200000 in
theorem impl_BigIntCmp (w : World) (B : Nat) (hB : B ≤ w.heap.size) (s : Bool) (A : Option Addr) (n c : Nat) (xs : List Int) (Rx : RdI w B A n xs) (t : Bool) (A' : Option Addr) (m c' : Nat) (ys : List Int) (Ry : RdI w B A' m ys) :
    Calls Try.prog 83 #[.agg #[.bool s, .slice A n c], .agg #[.bool t, .slice A' m c']] w fun e w' => e = .returned (.int .i64 (cmpZ s xs t ys)) ∧ Below w.heap.size w w' := by
  obtain ⟨W0, hW0⟩ : ∃ W0, W0 = (w.alloc (.cells #[.bool s, .slice A n c] 37)).alloc (.cells #[.bool t, .slice A' m c'] 37) := ⟨_, rfl⟩
  have hb0 : Below w.heap.size w W0 := by rw [hW0]; exact below_alloc (below_new _ _) _
  have kx : Box W0 w.heap.size 37 #[.bool s, .slice A n c] := by rw [hW0]; exact (Box.last _ _ _ rfl).alloc _
  have ky : Box W0 (w.heap.size + 1) 37 #[.bool t, .slice A' m c'] := by rw [hW0]; exact Box.last _ _ _ (alloc_size _ _).symm
  have hs0 : W0.heap.size = w.heap.size + 2 := by rw [hW0, alloc_size, alloc_size]
  have x0 := kx.cell 0
  have x1 := kx.cell 1
  have y0 := ky.cell 0
  have y1 := ky.cell 1
  simp only [List.getElem?_toArray, List.getElem?_cons_zero, List.getElem?_cons_succ] at x0 x1 y0 y1
  have HX := hide kx
  have HY := hide ky
  have HKS := hide (fun (W : World) (h : Below W0.heap.size W0 W) => (⟨(HX.out.below h HX.out.lt).cell 0, (HX.out.below h HX.out.lt).cell 1, (HY.out.below h HY.out.lt).cell 0, (HY.out.below h HY.out.lt).cell 1⟩ : W.cell? ⟨w.heap.size, 0, none⟩ = some (.bool s) ∧ W.cell? ⟨w.heap.size, 1, none⟩ = some (.slice A n c) ∧ W.cell? ⟨w.heap.size + 1, 0, none⟩ = some (.bool t) ∧ W.cell? ⟨w.heap.size + 1, 1, none⟩ = some (.slice A' m c')))
  have HC1 := hide (fun (W : World) => impl_signedOf_w W s A n c)
  have HC2 := hide (fun (W : World) => impl_signedOf_w W t A' m c')
  have HRX := hide Rx
  have HRY := hide Ry
  have HB0 := hide hb0
  have HNO := hide (cmpZ_no (s := s) (t := t) (xs := xs) (ys := ys))
  have HOK := hide (cmpZ_ok (s := s) (t := t) (xs := xs) (ys := ys))
  generalize cmpZ s xs t ys = Z at HNO HOK ⊢
  clear kx ky hb0 Rx Ry
  go_enter Try.func83, Try.ntmps83
  go_upto_region 1 with fail
  rw [← hW0]
  clear hW0
  go_cut [5, 6] from 7 to 21 (fun s5 s6 wx => ∃ g h : Nat, s5 = .pointer (some ⟨g, 0, none⟩) ∧ s6 = .pointer (some ⟨h, 0, none⟩) ∧ Box wx g 92 #[.slice A n c, .bool s] ∧ Box wx h 92 #[.slice A' m c', .bool t] ∧ Below W0.heap.size W0 wx ∧ W0.heap.size ≤ g ∧ W0.heap.size ≤ h)
  case first =>
    go_region_held3 (fun w' => w'.cell? ⟨w.heap.size, 0, none⟩ = some (.bool s) ∧ w'.cell? ⟨w.heap.size, 1, none⟩ = some (.slice A n c) ∧ w'.cell? ⟨w.heap.size + 1, 0, none⟩ = some (.bool t) ∧ w'.cell? ⟨w.heap.size + 1, 1, none⟩ = some (.slice A' m c'))
      (first | (refine HKS.out _ ?_; repeat (first | (with_reducible exact Below.refl _ _) | (with_reducible refine Below.drew ?_) | (with_reducible refine below_alloc ?_ _))))
      (first
        | (go_at_call_has 91 A; refine (HC1.out _).mono ?_; rintro e w1 ⟨rfl, rfl⟩)
        | (go_at_call_has 91 A'; refine (HC2.out _).mono ?_; rintro e w1 ⟨rfl, rfl⟩))
    all_goals
      go_wp2_with fail
      go_meet
      case rel =>
        refine ⟨_, _, rfl, rfl, ?_, ?_, ?_, by omega, by omega⟩
        · refine Box.drew ?_
          repeat (first | (with_reducible exact Box.last _ _ _ (by (try simp only [alloc_size]); omega)) | (with_reducible refine Box.alloc ?_ _))
        · refine Box.drew ?_
          repeat (first | (with_reducible exact Box.last _ _ _ (by (try simp only [alloc_size]); omega)) | (with_reducible refine Box.alloc ?_ _))
        · repeat (first | (with_reducible exact Below.refl _ _) | (with_reducible refine Below.drew ?_) | (with_reducible refine below_alloc ?_ _))
  case rest =>
    obtain ⟨g, h, rfl, rfl, kg, kh, hb1, hgg, hgh⟩ := hcut
    clear x0 x1 y0 y1 HKS HC1 HC2 HX HY
    have hs1 := hb1.size
    have hb1' := below_then HB0.out hb1
    have g0 := kg.cell 0
    have g1 := kg.cell 1
    have h0 := kh.cell 0
    have h1 := kh.cell 1
    simp only [List.getElem?_toArray, List.getElem?_cons_zero, List.getElem?_cons_succ] at g0 g1 h0 h1
    
    have R1 := HRX.out.below (hb1'.mono hB)
    go_wp2_with fail
    refine (impl_isValid wc B (by omega) s A n c xs R1).mono ?_
    rintro e w2 ⟨rfl, hb2⟩
    have kg2 := kg.below hb2 kg.lt
    have kh2 := kh.below hb2 kh.lt
    
    have hs2 := hb2.size
    have hb2' := below_then hb1' hb2
    have R2x := HRX.out.below (hb2'.mono hB)
    have R2 := HRY.out.below (hb2'.mono hB)
    clear g0 g1 h0 h1 kg kh hb1 hb1' hb2 R1
    have g0 := kg2.cell 0
    have g1 := kg2.cell 1
    have h0 := kh2.cell 0
    have h1 := kh2.cell 1
    simp only [List.getElem?_toArray, List.getElem?_cons_zero, List.getElem?_cons_succ] at g0 g1 h0 h1
    by_cases hv : bigB s xs = true
    · rw [hv]
      go_wp2_with fail
      refine (impl_isValid w2 B (by omega) t A' m c' ys R2).mono ?_
      rintro e w3 ⟨rfl, hb3⟩
      have kg3 := kg2.below hb3 kg2.lt
      have kh3 := kh2.below hb3 kh2.lt
      
      have hs3 := hb3.size
      have hb3' := below_then hb2' hb3
      have R3x := HRX.out.below (hb3'.mono hB)
      have R3y := HRY.out.below (hb3'.mono hB)
      clear g0 g1 h0 h1 kg2 kh2 hb2' hb3 R2x R2
      have g0 := kg3.cell 0
      have g1 := kg3.cell 1
      have h0 := kh3.cell 0
      have h1 := kh3.cell 1
      simp only [List.getElem?_toArray, List.getElem?_cons_zero, List.getElem?_cons_succ] at g0 g1 h0 h1
      by_cases hu : bigB t ys = true
      · have hz := HOK.out hv hu
        clear HOK HNO
        have hlx := ((natB_iff xs).1 (bigB_nat hv)).2
        have hly := ((natB_iff ys).1 (bigB_nat hu)).2
        rw [hu]
        go_wp2_with fail
        refine (impl_order w3 B (by omega) s A n c xs R3x hv t A' m c' ys R3y hu).mono ?_
        rintro e w4 ⟨rfl, hb4⟩
        have hb4' := below_then hb3' hb4
        go_wp2_with fail
        go_ret
        exact ⟨by subst hz; rfl, hb4'⟩
      · have hu : bigB t ys = false := by simpa using hu
        have hz := HNO.out (.inr hu)
        subst hz
        rw [hu]
        go_wp2_with fail
        go_ret
        exact ⟨rfl, hb3'⟩
    · have hv : bigB s xs = false := by simpa using hv
      have hz := HNO.out (.inl hv)
      subst hz
      rw [hv]
      go_wp2_with fail
      go_ret
      exact ⟨rfl, hb2'⟩
end Go.Proofs.Ytnbaookdeijhhaa
