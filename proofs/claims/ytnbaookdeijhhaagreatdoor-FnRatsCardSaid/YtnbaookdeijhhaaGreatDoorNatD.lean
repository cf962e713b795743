/-
  The laws' numbers: what the reference's draws make.
-/
import Derived.Test.YtnbaookdeijhhaaGreatDoorDA
import Derived.Test.YtnbaookdeijhhaaGreatDoorRA
namespace Go.Proofs.YtnbaookdeijhhaaGreatDoor
open Go.RowKit
set_option linter.unusedVariables false

theorem Only.aside {G : Nat} {a b : World} (h : Only G a b) : Aside G (G + 1) a b :=
  ⟨h.1.os, h.1.tape, h.1.output, h.1.size, fun i hi hd => h.1.block i hi (fun e => by injection e with e; omega)⟩
theorem belowAsides {w w' : World} (h : Below w.heap.size w w') (lo hi : Nat) : Aside lo hi w w' := ⟨h.os, h.tape, h.output, h.size, fun k hk _ => h.block k hk⟩
theorem alloc_aside (w : World) (o : Obj) (lo hi : Nat) : Aside lo hi w (w.alloc o) := belowAsides ((Below.refl w.heap.size w).alloc (Nat.le_refl _) o) lo hi
set_option maxHeartbeats 400000 in
theorem l01Pick_any (G n c m cl : Nat) (A Al : Option Addr) (B BL : Nat) (xs : List Int) (w : World) (hn : n ≤ 1099511627776) (hm : 1 ≤ m) (hm2 : m ≤ 1000000) (hxl : xs.length = m) (hc : CurAt w G A n c) (hb : Bytes w B A n) (hB : B ≤ G)
    (hx : Rd w BL Al (iv xs)) (hne : ∀ ad, Al = some ad → ad.block ≠ G) :
    Calls Tryz.prog 78 #[.pointer (some ⟨G, 0, none⟩), .slice Al m cl] w fun e w' => ∃ x, x ∈ xs ∧ e = .returned (.int .i64 x) ∧ CurAt w' G A n c ∧ Only G w w' := by
  go_enter Tryz.func78, Tryz.ntmps78
  go_wp2_with fail
  refine (l01Below_any G n c m A B w hn hm (by omega) hc hb hB).mono ?_
  rintro e w1 ⟨r, rfl, hr, hc1, ho⟩
  obtain ⟨ad, hA, hab, hce⟩ := hx.int (k := r) (by omega)
  have hce1 := ho.cell (by rw [add_block]; exact hne ad hA) hce
  have hr0 : (0 : Int) ≤ (r : Int) := Int.natCast_nonneg _
  have hr1 : (r : Int) < (m : Int) := by omega
  have hmem : xs[r]'(by omega) ∈ xs := List.getElem_mem _
  clear hx hne hce
  subst hA
  go_wp2_with fail
  go_ret
  exact ⟨_, hmem, rfl, hc1, ho⟩
end Go.Proofs.YtnbaookdeijhhaaGreatDoor
