/-
  The laws' polygons: each is its own hull, two of them have at most ten corners; what FnHull asks of them.
-/
import Derived.Test.YtdagomikjblgiaaPolD
import Derived.Test.YtdagomikjblgiaaPX
namespace Go.Proofs.Ytdagomikjblgiaa
open Go.RowKit
set_option linter.unusedVariables false
theorem smallV.vec {v : V2} (h : smallV v) : vecV v = true := by
  obtain ⟨h1, h2⟩ := h
  unfold vecV vecB
  simp
  omega
theorem small_all {l : List V2} (h : ∀ v ∈ l, smallV v) : allV l = true := List.all_eq_true.2 fun v hv => (h v hv).vec
theorem tri_hull : hullV triF = triF := by decide
theorem drawF_five (bs : List Int) : ∀ k s, (drawF bs k s).length ≤ 5 ∧ hullV (drawF bs k s) = drawF bs k s := by
  intro k
  induction k with
  | zero => intro s; exact ⟨by show 3 ≤ 5; omega, tri_hull⟩
  | succ k ih =>
    intro s
    unfold drawF
    split
    · obtain ⟨h1, h2⟩ := tryF_all bs s
      exact ⟨Nat.le_trans hullV_le h2, hullV_idem (by omega) (small_all h1)⟩
    · exact ih _
/-- what the law asks of the hull of two of its polygons -/
theorem two_hull {D E : List V2} (hD : polyP D) (hDD : hullV D = D) (h5 : D.length ≤ 5) (h5' : E.length ≤ 5) (hd : ∀ v ∈ D, smallV v) (he : ∀ v ∈ E, smallV v) :
    polyB (hullV (D ++ E)) = true ∧ hullV (hullV (D ++ E)) = hullV (D ++ E) ∧ areaB D ≤ areaB (hullV (D ++ E)) ∧ 0 < areaB (hullV (D ++ E)) ∧
    (∀ v ∈ D ++ E, ∀ i, i < (hullV (D ++ E)).length → 0 ≤ tn (atV (hullV (D ++ E)) i) (atV (hullV (D ++ E)) ((i + 1) % (hullV (D ++ E)).length)) v) := by
  have hl : (D ++ E).length ≤ 16 := by rw [List.length_append]; omega
  have hv : allV (D ++ E) = true := small_all fun v h => (List.mem_append.1 h).elim (hd v) (he v)
  have hs : ∀ x ∈ D, x ∈ D ++ E := fun x h => List.mem_append.2 (.inl h)
  have hP := hull_poly hl hv hD hs
  have hB := polyB_iff.2 hP
  have a1 : areaB (hullV (D ++ E)) = area2 (hullV (D ++ E)) := by unfold areaB; rw [if_pos hB]
  have a2 : areaB D = area2 D := by unfold areaB; rw [if_pos (polyB_iff.2 hD)]
  refine ⟨hB, hullV_idem (by omega) hv, ?_, ?_, fun v h i hi => (hull_edge (by omega) hv (srt_two hD hs) hi).1 v h⟩
  · rw [a1, a2]; exact poly_area_le hl hv hD hDD hs
  · rw [a1]; exact poly_area hP
theorem IsRow.bytesF {w : World} {a : Option Addr} {len cap : Nat} {zs : List Int} (h : IsRow .u8 w a len cap zs) : BytesF w w.heap.size a (zs.take len) ∧ (zs.take len).length = len ∧ len ≤ maxLen := by
  rcases h with ⟨rfl, rfl, rfl, rfl⟩ | ⟨x, rfl, hl, hm, hz, hc, hs⟩
  · exact ⟨fun k hk => by simp at hk, rfl, Nat.zero_le _⟩
  · have hlen : (zs.take len).length = len := by rw [List.length_take]; omega
    refine ⟨fun k hk => ?_, hlen, Nat.le_trans hl hm⟩
    have hk' : k < zs.length := by omega
    have h1 := hc k hk'
    have hlt := World.block_lt_of_cell? w _ h1
    rw [add_block] at hlt
    have e : zs.getD k 0 = zs[k] := by simp [List.getD, hk']
    rw [e] at h1
    have := bounds_u8 (hs _ (List.getElem_mem hk'))
    rw [List.getElem_take]
    exact ⟨x, rfl, hlt, h1, this.1, this.2⟩
end Go.Proofs.Ytdagomikjblgiaa
