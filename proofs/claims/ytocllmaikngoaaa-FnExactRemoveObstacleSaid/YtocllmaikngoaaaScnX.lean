/-
  The library's Delete at a list of lists of vectors: one element taken out of a row of one's own.
-/
import Derived.Test.YtocllmaikngoaaaSC
import Derived.Test.YtocllmaikngoaaaSB
import Derived.Deep.RegionLaw
import Derived.Lib.SliceRun
namespace Go.Proofs.Ytocllmaikngoaaa
open Go.RowKit
set_option linter.unusedVariables false
theorem own_setCells {lo hi g : Nat} {E : TypeId} {n c : Nat} : ∀ (us xs : List Value) (o : Nat) (W : World), o + us.length ≤ n → lo ≤ g → g < hi → W.ownsRow lo E 1 (.slice (some ⟨g, 0, none⟩) n c) n xs → (W.setCells g o us).ownsRow lo E 1 (.slice (some ⟨g, 0, none⟩) n c) n (xs.take o ++ us ++ xs.drop (o + us.length)) ∧ Aside lo hi W (W.setCells g o us) := by
  intro us
  induction us with
  | nil =>
    intro xs o W _ _ _ h
    refine ⟨?_, Aside.refl _⟩
    have e : xs.take o ++ [] ++ xs.drop (o + ([] : List Value).length) = xs := by simp
    rw [e]; exact h
  | cons u us ih =>
    intro xs o W ho h1 h2 h
    have hs := (h.stored o u).1
    have hl : xs.length = n := by have := h.1; omega
    simp only [List.length_cons] at ho
    obtain ⟨a, b⟩ := ih (xs.set o u) (o + 1) (W.setCell ⟨g, o, none⟩ u) (by omega) h1 h2 hs
    refine ⟨?_, ((Aside.refl W).setCell (a := ⟨g, o, none⟩) h1 h2 u).trans b⟩
    have e : (xs.set o u).take (o + 1) ++ us ++ (xs.set o u).drop (o + 1 + us.length) = xs.take o ++ (u :: us) ++ xs.drop (o + (u :: us).length) := by
      rw [List.take_succ_eq_append_getElem (by rw [List.length_set]; omega), List.getElem_set_self, List.take_set_of_le (Nat.le_refl _), List.drop_set_of_lt (by omega)]
      simp only [List.length_cons, List.append_assoc, List.cons_append, List.nil_append]
      congr 4
      omega
    rw [e] at a
    exact a
theorem keep_setX {lo hi g : Nat} {E : TypeId} {n c : Nat} {xs : List Value} : ∀ (us : List Value) (o : Nat) (W : World), n ≤ o → lo ≤ g → g < hi → W.ownsRow lo E 1 (.slice (some ⟨g, 0, none⟩) n c) n xs → (W.setCells g o us).ownsRow lo E 1 (.slice (some ⟨g, 0, none⟩) n c) n xs ∧ Aside lo hi W (W.setCells g o us) := by
  intro us
  induction us with
  | nil => intro o W _ _ _ h; exact ⟨h, Aside.refl _⟩
  | cons u us ih =>
    intro o W ho h1 h2 h
    have hs := (h.stored o u).1
    have e : xs.set o u = xs := List.set_eq_of_length_le (by have := h.1; omega)
    rw [e] at hs
    obtain ⟨a, b⟩ := ih (o + 1) (W.setCell ⟨g, o, none⟩ u) (by omega) h1 h2 hs
    exact ⟨a, ((Aside.refl W).setCell (a := ⟨g, o, none⟩) h1 h2 u).trans b⟩
set_option maxRecDepth 100000 in
set_option maxHeartbeats 6400000 in
theorem impl_DeleteS (w : World) (lo hi g n c i j : Nat) (ss : List Sl) (o : OwnR w lo hi 30 (.slice (some ⟨g, 0, none⟩) n c) n ss) (hin : i < n) (hj : j = i + 1) (hn : n ≤ 2097152) :
    Calls Try.prog 33 #[.slice (some ⟨g, 0, none⟩) n c, .int .i64 i, .int .i64 (j : Int)] w fun e w' => e = .returned (.slice (some ⟨g, 0, none⟩) (n - 1) c) ∧ OwnR w' lo hi 30 (.slice (some ⟨g, 0, none⟩) (n - 1) c) (n - 1) (lessL ss i) ∧ Aside lo hi w w' := by
  obtain ⟨i0, hi0, hz0, hz1, hz2⟩ := info_parts Try.infoVecS
  have hcap := o.cap
  have hnc := hcap.1
  have hcm := hcap.2
  unfold maxLen at hcm
  have hlen := o.len
  have hlg : lo ≤ g := (o.1.lt g rfl).1
  have hgh : g < hi := o.2 g rfl
  obtain ⟨news, hnews⟩ : ∃ news, news = slv (ss.drop j) := ⟨_, rfl⟩
  have hnl : news.length = n - j := by rw [hnews, slv_len, List.length_drop, hlen]
  obtain ⟨A, hA, hsrc⟩ : ∃ A : Addr, (if c = j then some (⟨g, 0, none⟩ : Addr) else some ⟨g, j, none⟩) = some A ∧ Hid (∀ t u, news[t]? = some u → w.drew.cell? (A.add t) = some u) := by
    by_cases h : c = j
    · refine ⟨⟨g, 0, none⟩, by simp [h], fun t u hu => ?_⟩
      have h0 : news.length = 0 := by rw [hnl]; omega
      rw [List.length_eq_zero_iff.1 h0] at hu
      simp at hu
    · refine ⟨⟨g, j, none⟩, by simp [h], fun t u hu => ?_⟩
      have ht : t < n - j := by
        have := (List.getElem?_eq_some_iff.1 hu).1
        rwa [hnl] at this
      rw [Addr.add_lit]
      show w.cell? _ = _
      rw [o.1.cellAt (j + t) (by omega), ← hu, hnews, slv_drop, List.getElem?_drop]
  have s1 : Hid (news.length = (n - j) * 1) := by rw [Nat.mul_one]; exact hnl
  have s2 : Hid (∀ u ∈ news, u.oneCell' = true) := by rw [hnews]; exact slv_one _
  have s3 : Hid (∀ t, t < news.length → (w.drew.cell? ⟨g, 0 + i * 1 + t, none⟩).isSome = true ∧ w.drew.frozen? ⟨g, 0 + i * 1 + t, none⟩ = false) := by
    intro t ht
    rw [hnl] at ht
    rw [Nat.mul_one, Nat.zero_add]
    refine ⟨?_, o.1.frozenAt _⟩
    show (w.cell? _).isSome = true
    rw [o.1.cellAt (i + t) (by omega), List.getElem?_eq_getElem (by rw [slv_len]; omega)]; rfl
  obtain ⟨W1, hW1⟩ : ∃ W1, W1 = w.drew.setCells g (0 + i * 1) news := ⟨_, rfl⟩
  obtain ⟨q1, q2⟩ := own_setCells (hi := hi) news (slv ss) i w.drew (by rw [hnl]; omega) hlg hgh o.1
  have eW : w.drew.setCells g i news = W1 := by rw [hW1, Nat.mul_one, Nat.zero_add]
  rw [eW] at q1 q2
  have hcl : ∀ ty, (Builtin.clear_ #[31] ty #[.slice (some ⟨g, i + (n - j), none⟩) (n - (i + (n - j))) (c - (i + (n - j)))]).run Try.prog W1 = .ok (.tuple #[]) (W1.setCells g (i + (n - j)) (List.replicate (n - (i + (n - j))) (.slice none 0 0))) :=
    fun ty => Lib.run_clear_slice W1 _ _ ty _ Try.underlying31 Try.zeroValue30 rfl rfl g (i + (n - j)) _ _ (by omega) (fun t ht => by
      rw [q1.cellAt _ (by omega), List.getElem?_eq_getElem (by have := q1.1; omega)]; rfl) (fun t ht => q1.frozenAt _)
  have HFIN : Hid (∀ W2, W2 = W1.setCells g (i + (n - j)) (List.replicate (n - (i + (n - j))) (.slice none 0 0)) → OwnR W2 lo hi 30 (.slice (some ⟨g, 0, none⟩) (n - 1) c) (n - 1) (lessL ss i) ∧ Aside lo hi w W2) := by
    intro W2 e
    have em : i + (n - j) = n - 1 := by omega
    rw [em] at e
    have q3 := own_cut q1 (m := n - 1) (by omega)
    have e3 : ((slv ss).take i ++ news ++ (slv ss).drop (i + news.length)).take (n - 1) = slv (lessL ss i) := by
      have hsl : (slv ss).length = n := by rw [slv_len, hlen]
      unfold lessL
      rw [← hj, slv_append, slv_take, ← hnews, List.take_append_of_le_length (by rw [List.length_append, List.length_take, hnl]; omega)]
      exact List.take_of_length_le (by rw [List.length_append, List.length_take, hnl]; omega)
    rw [e3] at q3
    obtain ⟨q4, q5⟩ := keep_setX (hi := hi) (List.replicate (n - (n - 1)) (.slice none 0 0)) (n - 1) W1 (Nat.le_refl _) hlg hgh q3
    subst e
    exact ⟨⟨q4, fun k hk => by simp [Value.ownBlock] at hk; omega⟩, Aside.trans (show Aside lo hi w W1 from ⟨q2.os, q2.tape, q2.output, q2.size, q2.block⟩) q5⟩
  have HW : Hid (W1 = w.drew.setCells g (0 + i * 1) news) := hW1
  have hic : i ≤ c := by omega
  have hjc : j ≤ c := by omega
  have hij : i < j := by omega
  have hjn : j ≤ n := by omega
  have HJ := hide hj
  have hne : ((i : Int) == (j : Int)) = false := by simp; omega
  clear hW1 q1 q2 eW hnews hnl o hlen hcap hj
  go_enter Try.func33, Try.ntmps33
  go_wp2_with fail
  go_region_law (refine step_append_room rfl (.tmp 22) (.tmp 25) 31 rfl 30 i0 1 Try.underlying31 hi0 hz1 g 0 i c (by simp [Act.eval, Act.put]) A (n - j) (c - j) news (by simp [Act.eval, Act.put]) s1.out hsrc.out s2.out (by omega) s3.out ?_; rw [← HW.out])
  go_wp2
  go_ret
  have hj := HJ.out
  obtain ⟨r1, r2⟩ := HFIN.out _ rfl
  refine ⟨by rw [show n - 1 = i + (n - j) by omega]; rfl, r1, r2⟩
end Go.Proofs.Ytocllmaikngoaaa
