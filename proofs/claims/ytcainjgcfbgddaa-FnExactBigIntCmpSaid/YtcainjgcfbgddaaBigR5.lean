/-
  The reference's big integers: contracts (5): Cmp.
-/
import Derived.Test.YtcainjgcfbgddaaBigR
import Derived.Test.YtcainjgcfbgddaaNatR2
namespace Go.Proofs.Ytcainjgcfbgddaa
open Go.RowKit
set_option linter.unusedVariables false

theorem below_drewNC {B : Nat} {a w : World} (h : Below B a w) (n : Nat) : Below B a (w.drewN n) := ⟨h.os, h.tape, h.output, h.size, h.block⟩
theorem big_posR {xs : List Int} (h : bigB true xs = true) : 0 < val xs := by
  have hn := bigB_nat h
  have h0 := natB_zero hn
  have hv := natV_val hn
  unfold bigB at h
  simp only [hn, h0, Bool.true_and] at h
  have : natV xs ≠ 0 := by intro e; simp [e] at h
  omega
theorem cmpV_swapR (a b : Int) : cmpV (-a) (-b) = cmpV b a := by unfold cmpV; split <;> split <;> (try split) <;> omega
theorem cmpZ_okR {s t : Bool} {xs ys : List Int} (h : bigB s xs = true) (k : bigB t ys = true) : cmpZ s xs t ys = cmpV (zv s xs) (zv t ys) := by rw [cmpZ, h, k]; rfl
theorem cmpZ_noR {s t : Bool} {xs ys : List Int} (h : bigB s xs = false ∨ bigB t ys = false) : cmpZ s xs t ys = 0 := by rw [cmpZ, if_neg]; rcases h with h | h <;> simp [h]
set_option maxHeartbeats 1600000 in
theorem spec_l03Cmp (w : World) (B : Nat) (hB : B ≤ w.heap.size) (s : Bool) (A : Option Addr) (n c : Nat) (xs : List Int) (Rx : RdI w B A n xs) (hx : bigB s xs = true) (t : Bool) (A' : Option Addr) (m c' : Nat) (ys : List Int) (Ry : RdI w B A' m ys) (hy : bigB t ys = true) :
    Calls Try.prog 57 #[.agg #[.bool s, .slice A n c], .agg #[.bool t, .slice A' m c']] w fun e w' => e = .returned (.int .i64 (cmpV (zv s xs) (zv t ys))) ∧ Below w.heap.size w w' := by
  have hb0 : Below w.heap.size w ((w.alloc (.cells #[.bool s, .slice A n c] 27)).alloc (.cells #[.bool t, .slice A' m c'] 27)) := below_alloc (below_new _ _) _
  have R0 := Rx.below (hb0.mono hB)
  have R1 := Ry.below (hb0.mono hB)
  have hxc := ((natB_iff xs).1 (bigB_nat hx)).1
  have hyc := ((natB_iff ys).1 (bigB_nat hy)).1
  have hl0 := Rx.2.2.1
  have hl1 := Ry.2.2.1
  have HC1 := hide (spec_Cmp _ B A A' n m c c' xs ys R0.1 R1.1 R0.2.1 R1.2.1 (by omega) (by omega) hxc hyc)
  have HC2 := hide (spec_Cmp _ B A' A m n c' c ys xs R1.1 R0.1 R1.2.1 R0.2.1 (by omega) (by omega) hyc hxc)
  have hvx := natV_nonneg (bigB_nat hx)
  have hvy := natV_nonneg (bigB_nat hy)
  cases s
  · cases t
    · have hz : cmpV (zv false xs) (zv false ys) = cmpV (val xs) (val ys) := rfl
      rw [hz]
      clear hz R0 R1 HC2
      go_enter Try.func57, Try.ntmps57
      go_wp2_with fail
      refine HC1.out.mono ?_
      rintro e w1 ⟨rfl, hd⟩
      have hb1 : Below w.heap.size w w1 := by obtain ⟨d, rfl⟩ := hd; exact below_drewNC hb0 d
      clear hd
      go_wp2_with fail
      go_ret
      exact ⟨rfl, hb1⟩
    · have hp := big_posR hy
      have hz : cmpV (zv false xs) (zv true ys) = 1 := by
        show cmpV (val xs) (-val ys) = 1
        exact cmpV_gt (by omega)
      rw [hz]
      clear hz R0 R1 HC1 HC2
      go_enter Try.func57, Try.ntmps57
      go_wp2_with fail
      go_ret
      exact ⟨rfl, hb0⟩
  · cases t
    · have hp := big_posR hx
      have hz : cmpV (zv true xs) (zv false ys) = -1 := by
        show cmpV (-val xs) (val ys) = -1
        exact cmpV_lt (by omega)
      rw [hz]
      clear hz R0 R1 HC1 HC2
      go_enter Try.func57, Try.ntmps57
      go_wp2_with fail
      go_ret
      exact ⟨rfl, hb0⟩
    · have hz : cmpV (zv true xs) (zv true ys) = cmpV (val ys) (val xs) := cmpV_swapR _ _
      rw [hz]
      clear hz R0 R1 HC1
      go_enter Try.func57, Try.ntmps57
      go_wp2_with fail
      refine HC2.out.mono ?_
      rintro e w1 ⟨rfl, hd⟩
      have hb1 : Below w.heap.size w w1 := by obtain ⟨d, rfl⟩ := hd; exact below_drewNC hb0 d
      clear hd
      go_wp2_with fail
      go_ret
      exact ⟨rfl, hb1⟩
set_option maxHeartbeats 3200000 in
theorem spec_BigIntCmp (w : World) (B : Nat) (hB : B ≤ w.heap.size) (s : Bool) (A : Option Addr) (n c : Nat) (xs : List Int) (Rx : RdI w B A n xs) (t : Bool) (A' : Option Addr) (m c' : Nat) (ys : List Int) (Ry : RdI w B A' m ys) :
    Calls Try.prog 32 #[.agg #[.bool s, .slice A n c], .agg #[.bool t, .slice A' m c']] w fun e w' => e = .returned (.int .i64 (cmpZ s xs t ys)) ∧ Below w.heap.size w w' := by
  obtain ⟨W0, hW0⟩ : ∃ W0, W0 = (w.alloc (.cells #[.bool s, .slice A n c] 27)).alloc (.cells #[.bool t, .slice A' m c'] 27) := ⟨_, rfl⟩
  have hb0 : Below w.heap.size w W0 := by rw [hW0]; exact below_alloc (below_new _ _) _
  have kx : Box W0 w.heap.size 27 #[.bool s, .slice A n c] := by rw [hW0]; exact (Box.last _ _ _ rfl).alloc _
  have ky : Box W0 (w.heap.size + 1) 27 #[.bool t, .slice A' m c'] := by rw [hW0]; exact Box.last _ _ _ (alloc_size _ _).symm
  have hs0 : W0.heap.size = w.heap.size + 2 := by rw [hW0, alloc_size, alloc_size]
  have R0 := Rx.below (hb0.mono hB)
  have R1 := Ry.below (hb0.mono hB)
  obtain ⟨x0, x1, _, _⟩ := kx.facts
  obtain ⟨y0, y1, _, _⟩ := ky.facts
  have HNO := hide (cmpZ_noR (s := s) (t := t) (xs := xs) (ys := ys))
  have HOK := hide (cmpZ_okR (s := s) (t := t) (xs := xs) (ys := ys))
  generalize cmpZ s xs t ys = Z at HNO HOK ⊢
  go_enter Try.func32, Try.ntmps32
  go_wp2_with fail
  rw [← hW0]
  clear hW0
  refine (spec_BigIntOk W0 B (by omega) s A n c xs R0).mono ?_
  rintro e w1 ⟨rfl, hb1⟩
  have kx1 := kx.below hb1 kx.lt
  have ky1 := ky.below hb1 ky.lt
  have hb1' := below_then hb0 hb1
  have hs1 := hb1.size
  have R01 := R0.below (hb1.mono (by omega))
  have R11 := R1.below (hb1.mono (by omega))
  clear kx ky hb0 hb1 R0 R1 x0 x1 y0 y1
  obtain ⟨x0, x1, _, _⟩ := kx1.facts
  obtain ⟨y0, y1, _, _⟩ := ky1.facts
  by_cases hv : bigB s xs = true
  · rw [hv]
    go_wp2_with fail
    refine (spec_BigIntOk w1 B (by omega) t A' m c' ys R11).mono ?_
    rintro e w2 ⟨rfl, hb2⟩
    have kx2 := kx1.below hb2 kx1.lt
    have ky2 := ky1.below hb2 ky1.lt
    have hb2' := below_then hb1' hb2
    have hs2 := hb2.size
    have R02 := R01.below (hb2.mono (by omega))
    have R12 := R11.below (hb2.mono (by omega))
    clear kx1 ky1 hb1' hb2 R01 R11 x0 x1 y0 y1
    obtain ⟨x0, x1, _, _⟩ := kx2.facts
    obtain ⟨y0, y1, _, _⟩ := ky2.facts
    by_cases hu : bigB t ys = true
    · have hz0 := HOK.out hv hu
      rw [hu]
      clear HNO HOK
      go_wp2_with fail
      refine (spec_l03Cmp w2 B (by omega) s A n c xs R02 hv t A' m c' ys R12 hu).mono ?_
      rintro e w4 ⟨rfl, hb4⟩
      have hb4' := below_then hb2' hb4
      subst hz0
      go_wp2_with fail
      go_ret
      exact ⟨rfl, hb4'⟩
    · have hu : bigB t ys = false := by simpa using hu
      have hz := HNO.out (.inr hu)
      subst hz
      rw [hu]
      clear HNO HOK kx2 ky2 R02 R12
      go_wp2_with fail
      go_ret
      exact ⟨rfl, hb2'⟩
  · have hv : bigB s xs = false := by simpa using hv
    have hz := HNO.out (.inl hv)
    subst hz
    rw [hv]
    clear HNO HOK kx1 ky1 R01 R11
    go_wp2_with fail
    go_ret
    exact ⟨rfl, hb1'⟩
end Go.Proofs.Ytcainjgcfbgddaa
