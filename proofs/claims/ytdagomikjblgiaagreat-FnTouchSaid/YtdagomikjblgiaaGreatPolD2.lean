/-
  The laws' polygons: each is its own hull, two of them have at most ten corners; what FnHull asks of them.
-/
import Derived.Test.YtdagomikjblgiaaGreatPolD
import Derived.Test.YtdagomikjblgiaaGreatPX
namespace Go.Proofs.YtdagomikjblgiaaGreat
open Go.RowKit
set_option linter.unusedVariables false
theorem smallV.vec {v : V2} (h : smallV v) : vecV v = true := by
  obtain ⟨h1, h2⟩ := h
  unfold vecV vecB
  simp
  omega
theorem small_all {l : List V2} (h : ∀ v ∈ l, smallV v) : allV l = true := List.all_eq_true.2 fun v hv => (h v hv).vec
theorem tri_hull : hullV triF = triF := by decide
theorem drawF_five (bs : List Int) : ∀ k s, (drawF bs k s).length ≤ 5 ∧ hullV (drawF bs k s) = drawF bs k s := by
  intro k
  induction k with
  | zero => intro s; exact ⟨by show 3 ≤ 5; omega, tri_hull⟩
  | succ k ih =>
    intro s
    unfold drawF
    split
    · obtain ⟨h1, h2⟩ := tryF_all bs s
      exact ⟨Nat.le_trans hullV_le h2, hullV_idem (by omega) (small_all h1)⟩
    · exact ih _
theorem IsRow.bytesF {w : World} {a : Option Addr} {len cap : Nat} {zs : List Int} (h : IsRow .u8 w a len cap zs) : BytesF w w.heap.size a (zs.take len) ∧ (zs.take len).length = len ∧ len ≤ maxLen := by
  rcases h with ⟨rfl, rfl, rfl, rfl⟩ | ⟨x, rfl, hl, hm, hz, hc, hs⟩
  · exact ⟨fun k hk => by simp at hk, rfl, Nat.zero_le _⟩
  · have hlen : (zs.take len).length = len := by rw [List.length_take]; omega
    refine ⟨fun k hk => ?_, hlen, Nat.le_trans hl hm⟩
    have hk' : k < zs.length := by omega
    have h1 := hc k hk'
    have hlt := World.block_lt_of_cell? w _ h1
    rw [add_block] at hlt
    have e : zs.getD k 0 = zs[k] := by simp [List.getD, hk']
    rw [e] at h1
    have := bounds_u8 (hs _ (List.getElem_mem hk'))
    rw [List.getElem_take]
    exact ⟨x, rfl, hlt, h1, this.1, this.2⟩
end Go.Proofs.YtdagomikjblgiaaGreat
