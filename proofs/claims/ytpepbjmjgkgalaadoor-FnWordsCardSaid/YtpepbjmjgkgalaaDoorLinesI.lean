/-
  The lines of a text: plain, and what SplitLines answers, of the program.
-/
import Derived.Test.YtpepbjmjgkgalaaDoorSplitI
namespace Go.Proofs.YtpepbjmjgkgalaaDoor
open Go.RowKit
set_option linter.unusedVariables false



/-- the last piece of a text, and its lines -/
def lastPiece (s : ByteArray) : ByteArray := (splitL s ⟨#[10]⟩).getD ((splitL s ⟨#[10]⟩).length - 1) ByteArray.empty

def linesL (s : ByteArray) : List ByteArray := if (lastPiece s).size = 0 then (splitL s ⟨#[10]⟩).take ((splitL s ⟨#[10]⟩).length - 1) else splitL s ⟨#[10]⟩

theorem linesL_len (s : ByteArray) : (linesL s).length ≤ s.size + 1 := by
  have := splitL_len s ⟨#[10]⟩
  unfold linesL
  split
  · rw [List.length_take]; omega
  · omega

set_option maxHeartbeats 400000 in
theorem impl_SplitLines (s : ByteArray) (w : World) (hs : s.size ≤ 1099511627776) :
    Calls Tryd.prog 13 #[.string s] w fun e w' => ∃ v, e = .returned v ∧ w'.ownsRow w.heap.size 9 1 v (linesL s).length (sv (linesL s)) ∧ Below w.heap.size w w' := by
  have hl := splitL_len s ⟨#[10]⟩
  go_enter Tryd.func13, Tryd.ntmps13
  go_wp2_with fail
  refine (impl_SplitAny s ⟨#[10]⟩ w hs (by decide)).mono ?_
  rintro e w1 ⟨v, rfl, hown, hb⟩
  have HP : Hid (lastPiece s = (splitL s ⟨#[10]⟩).getD ((splitL s ⟨#[10]⟩).length - 1) ByteArray.empty) := rfl
  have HL : Hid (linesL s = if (lastPiece s).size = 0 then (splitL s ⟨#[10]⟩).take ((splitL s ⟨#[10]⟩).length - 1) else splitL s ⟨#[10]⟩) := rfl
  generalize splitL s ⟨#[10]⟩ = ps at *
  rcases own_form hown with ⟨rfl, h0, _⟩ | ⟨g, c, rfl, hg, hgl⟩
  · omega
  · have hc : w1.cell? ⟨g, ps.length - 1, none⟩ = some (.string (lastPiece s)) := by
      rw [hown.cellAt _ (by omega), HP.out]
      simp [sv, List.getD, List.getElem?_eq_getElem (show ps.length - 1 < ps.length by omega)]
    have hncap : ps.length ≤ c := by
      rcases hown.2 with ⟨h', _⟩ | ⟨g', c', cur, hv, _, _, hnc, _⟩
      · cases h'
      · injection hv with _ _ h3; omega
    obtain ⟨hl1, hl2⟩ := hl
    have hN := hide (own_cut (m := ps.length - 1) hown (by omega))
    have hO := hide hown
    clear hown HP
    by_cases h0 : (lastPiece s).size = 0
    · have he := nonempty_t h0
      have HE : Hid (linesL s = ps.take (ps.length - 1)) := by show _ = _; rw [HL.out, if_pos h0]
      clear h0 HL
      generalize hn : ps.length = n at *
      have hn' : Hid (ps.length = n) := hn
      clear hn
      go_wp2
      go_ret
      refine ⟨_, rfl, ?_, hb⟩
      have hlen : (ps.take (n - 1)).length = n - 1 := by rw [List.length_take]; have := hn'.out; omega
      rw [HE.out, hlen, sv_take]
      exact hN.out
    · have he := nonempty_f (s := lastPiece s) (by omega)
      have HE : Hid (linesL s = ps) := by show _ = _; rw [HL.out, if_neg h0]
      clear h0 HL
      go_wp2
      go_ret
      exact ⟨_, rfl, by rw [HE.out]; exact hO.out, hb⟩
end Go.Proofs.YtpepbjmjgkgalaaDoor
