/-
  Big integers as text: FormatBigInt: both sides' contracts.
-/
import Derived.Test.YtnbaookdeijhhaaGreatDoorBA
import Derived.Test.YtnbaookdeijhhaaGreatDoorBQR
import Derived.Test.YtnbaookdeijhhaaGreatDoorFX
namespace Go.Proofs.YtnbaookdeijhhaaGreatDoor
open Go.RowKit
set_option linter.unusedVariables false

def fmtZ (s : Bool) (xs : List Int) : ByteArray := if bigB s xs then (if s then ⟨#[45]⟩ ++ fmtB xs else fmtB xs) else ByteArray.empty
theorem fmtZ_no {s : Bool} {xs : List Int} (h : bigB s xs = false) : fmtZ s xs = ⟨#[]⟩ := by rw [fmtZ, h]; rfl
theorem fmtZ_neg {xs : List Int} (h : bigB true xs = true) : fmtZ true xs = ⟨#[45]⟩ ++ fmtB xs := by rw [fmtZ, h]; rfl
theorem fmtZ_pos {xs : List Int} (h : bigB false xs = true) : fmtZ false xs = fmtB xs := by rw [fmtZ, h]; rfl
set_option maxHeartbeats 800000 in
theorem impl_text (w : World) (B : Nat) (hB : B ≤ w.heap.size) (A : Option Addr) (n c : Nat) (xs : List Int) (R : RdI w B A n xs) (hPT : PowTab w) :
    Calls Tryz.prog 91 #[.slice A n c] w fun e w' => e = .returned (.string (fmtB xs)) ∧ Below w.heap.size w w' := by
  go_enter Tryz.func91, Tryz.ntmps91
  go_wp2_with fail
  refine (impl_FormatNat w B hB A n c xs R hPT).mono ?_
  rintro e w1 ⟨rfl, hb⟩
  go_wp2_with fail
  go_ret
  exact ⟨rfl, hb⟩
set_option maxHeartbeats 800000 in
theorem impl_FormatBigInt (w : World) (B : Nat) (hB : B ≤ w.heap.size) (s : Bool) (A : Option Addr) (n c : Nat) (xs : List Int) (R : RdI w B A n xs) (hPT : PowTab w) :
    Calls Tryz.prog 44 #[.agg #[.bool s, .slice A n c]] w fun e w' => e = .returned (.string (fmtZ s xs)) ∧ Below w.heap.size w w' := by
  have hb0 := below_new w (.cells #[.bool s, .slice A n c] 25)
  have HN := hide (fmtZ_no (s := s) (xs := xs))
  have HY := hide (fun (h : s = true) => by subst h; exact fmtZ_neg (xs := xs) : s = true → bigB s xs = true → fmtZ s xs = ⟨#[45]⟩ ++ fmtB xs)
  have HP := hide (fun (h : s = false) => by subst h; exact fmtZ_pos (xs := xs) : s = false → bigB s xs = true → fmtZ s xs = fmtB xs)
  generalize fmtZ s xs = Z at HN HY HP ⊢
  go_enter Tryz.func44, Tryz.ntmps44
  go_wp2_with fail
  refine (impl_signedOf _ s A n c).mono ?_
  rintro e w1 ⟨rfl, hb1⟩
  have hb1' := below_then hb0 hb1
  have k1 := Box.last w1 111 #[.slice A n c, .bool s] rfl
  have hbW := below_alloc hb1' (.cells #[.slice A n c, .bool s] 111)
  have hsW := hbW.size
  have RW := R.below (hbW.mono hB)
  go_wp2_with fail
  refine (impl_isValid _ B (by omega) s A n c xs RW).mono ?_
  rintro e w2 ⟨rfl, hb2⟩
  have k2 := k1.below hb2 k1.lt
  have hb2' := below_then hbW hb2
  have hs2 := hb2'.size
  have R2 := R.below (hb2'.mono hB)
  have hPT2 := hPT.below hb2' hPT.lt
  clear hb0 hb1 hb1' k1 hbW hsW RW hb2 R
  obtain ⟨c0, c1, _, _⟩ := k2.facts
  by_cases hv : bigB s xs = true
  · rw [hv]
    cases s
    · have hz := HP.out rfl hv
      subst hz
      clear HN HY HP
      go_wp2_with fail
      refine (impl_text w2 B (by omega) A n c xs R2 hPT2).mono ?_
      rintro e w3 ⟨rfl, hb3⟩
      have hb3' := below_then hb2' hb3
      go_wp2_with fail
      go_ret
      exact ⟨rfl, hb3'⟩
    · have hz := HY.out rfl hv
      subst hz
      have hsz := fmtB_size (bigB_nat hv)
      clear HN HY HP
      go_wp2_with fail
      refine (impl_text w2 B (by omega) A n c xs R2 hPT2).mono ?_
      rintro e w3 ⟨rfl, hb3⟩
      have hb3' := below_then hb2' hb3
      go_wp2_with fail
      go_ret
      exact ⟨rfl, hb3'⟩
  · have hv : bigB s xs = false := by simpa using hv
    have hz := HN.out hv
    subst hz
    rw [hv]
    clear HN HY HP
    go_wp2_with fail
    go_ret
    exact ⟨rfl, hb2'⟩
end Go.Proofs.YtnbaookdeijhhaaGreatDoor
