/-
  What SplitAny answers, of the program.
-/
import Derived.Test.YtdagomikjblgiaaGreatDoorSplitP
namespace Go.Proofs.YtdagomikjblgiaaGreatDoor
open Go.RowKit
set_option linter.unusedVariables false

/-- the table of the bytes that cut: block g holds 256 bools -/
def Table (w : World) (g : Nat) (T : TypeId) (f : UInt8 → Bool) : Prop :=
  ∃ cur : Array Value, w.heap[g]? = some (.cells cur T (0, 0)) ∧ ∀ c : UInt8, cur[c.toNat]? = some (.bool (f c))

theorem Table.cell {w : World} {g : Nat} {T : TypeId} {f : UInt8 → Bool} (h : Table w g T f) (c : UInt8) : w.cell? ⟨g, c.toNat, none⟩ = some (.bool (f c)) ∧ w.frozen? ⟨g, c.toNat, none⟩ = false := by
  obtain ⟨cur, h1, h2⟩ := h
  exact ⟨(cell_of_row w g c.toNat cur T (0, 0) h1).trans (h2 c), frozen_of_row w g c.toNat cur T h1⟩

theorem Table.below {w w' : World} {g B : Nat} {T : TypeId} {f : UInt8 → Bool} (h : Table w g T f) (hb : Below B w w') (hg : g < B) : Table w' g T f := by
  obtain ⟨cur, h1, h2⟩ := h
  exact ⟨cur, (hb.block g hg).trans h1, h2⟩

theorem Table.set {w : World} {g : Nat} {T : TypeId} {f f' : UInt8 → Bool} (h : Table w g T f) (c : UInt8) (v : Bool) (hv : f' c = v) (ho : ∀ d, d ≠ c → f' d = f d) : Table (w.setCell ⟨g, c.toNat, none⟩ (.bool v)) g T f' := by
  obtain ⟨cur, h1, h2⟩ := h
  refine ⟨cur.setIfInBounds c.toNat (.bool v), heap_setCell_same w g c.toNat cur T _ h1, fun d => ?_⟩
  by_cases e : d = c
  · subst e
    have hlt : d.toNat < cur.size := (Array.getElem?_eq_some_iff.1 (h2 d)).1
    rw [Array.getElem?_setIfInBounds_self_of_lt hlt, hv]
  · have hne : c.toNat ≠ d.toNat := fun h => e (UInt8.toNat_inj.1 h.symm)
    rw [Array.getElem?_setIfInBounds_ne hne, h2 d, ho d e]

theorem Tryz.zeroTab (w : World) : (zeroValue 73).run Tryz.prog w = .ok (.agg (Array.replicate 256 (.bool false))) w := by kernel_rfl

theorem Table.new (w : World) (T : TypeId) (b : ByteArray) : Table (w.alloc (.cells (Array.replicate 256 (.bool false)) T)) w.heap.size T (cutB b 0) := by
  refine ⟨_, heap_alloc_new w _, fun c => ?_⟩
  have : c.toNat < 256 := c.toNat_lt
  rw [cutB_zero]
  simp [this]

set_option maxHeartbeats 800000 in
theorem impl_SplitAny (s b : ByteArray) (w : World) (hs : s.size ≤ 1099511627776) (hb : b.size ≤ 1099511627776) :
    Calls Tryz.prog 23 #[.string s, .string b] w fun e w' => ∃ v, e = .returned v ∧ w'.ownsRow w.heap.size 9 1 v (splitL s b).length (sv (splitL s b)) ∧ Below w.heap.size w w' := by
  have hT0 := Table.new w 73 b
  obtain ⟨cs, hcs⟩ : ∃ cs : Array Value, cs = Array.replicate 256 (.bool false) := ⟨_, rfl⟩
  have hz := Tryz.zeroTab
  rw [← hcs] at hT0
  simp only [← hcs] at hz
  clear hcs
  go_enter Tryz.func23, Tryz.ntmps23
  go_wp2
  go_loopw [6, 12] (fun _ i wr => ∃ k : Nat, k ≤ b.size ∧ i = .int .i64 k ∧ Table wr w.heap.size 73 (cutB b k) ∧ w.heap.size + 1 ≤ wr.heap.size ∧ Below w.heap.size w wr) (fun _ i _ => b.size - (intOf i).toNat)
  case atStart => exact ⟨0, Nat.zero_le _, rfl, hT0, by simp, (Below.refl _ _).alloc (Nat.le_refl _) _⟩
  case round =>
    clear hT0 hz
    obtain ⟨k, hk, rfl, hT, hsz, hbel⟩ := hrel
    by_cases hlt : k < b.size
    · obtain ⟨hc1, hf1⟩ := hT.cell b[k]
      have hT' := hT.set (f' := cutB b (k + 1)) b[k] true (cutB_hit hlt) (fun d hd => cutB_step hlt (Ne.symm hd))
      have hb' : b[k].toNat < 256 := b[k].toNat_lt
      clear hT
      go_wp2
      go_roundw
      case rel => exact ⟨k + 1, by omega, by go_num, hT', by simpa using hsz, hbel.setCell (Nat.le_refl _) _⟩
      case measure => simp [intOf]; omega
    · obtain rfl : k = b.size := by omega
      clear hlt hk
      obtain ⟨W, hW⟩ : ∃ W, W = wr := ⟨_, rfl⟩
      subst hW
      go_wp2
      go_loopw [7, 8, 22] (fun v f i wr => ∃ k : Nat, k ≤ s.size ∧ i = .int .i64 k ∧ f = .int .i64 ((pieces s b k).2 : Nat) ∧ wr.ownsRow (w.heap.size + 1) 9 1 v (pieces s b k).1.length (sv (pieces s b k).1) ∧ Below (w.heap.size + 1) W wr) (fun _ _ i _ => s.size - (intOf i).toNat)
      case atStart => exact ⟨0, Nat.zero_le _, rfl, rfl, World.ownsRow_nil _ _ _ _, Below.refl _ _⟩
      case round =>
        obtain ⟨k, hk, rfl, rfl, hown, hb2⟩ := hrel
        have hT2 := hT.below hb2 (by omega)
        have hsz2 : w.heap.size + 1 ≤ wr.heap.size := Nat.le_trans hsz hb2.size
        obtain ⟨hp1, hp2⟩ := pieces_le s b k
        by_cases hlt : k < s.size
        · obtain ⟨hc1, hf1⟩ := hT2.cell s[k]
          have hb' : s[k].toNat < 256 := s[k].toNat_lt
          by_cases hcut : cutB b b.size s[k] = true
          · have hpn := pieces_cut hlt hcut
            have HN : Hid (pieces s b (k + 1) = ((pieces s b k).1 ++ [s.extract (pieces s b k).2 k], k + 1)) := hpn
            clear hpn
            have hsl : (pieces s b k).2 ≤ k := hp1
            generalize (pieces s b k).2 = f at *
            generalize (pieces s b k).1 = ps at *
            go_wp2_with (at_builtin; refine wpList_append1 Tryz.sliceStr rfl _ _ rfl wr (w.heap.size + 1) _ _ _ hown rfl #[.string (s.extract f k)] 1 rfl rfl (by simp [Value.oneCell']) (by omega) (by omega) (by omega) ?_; intro v' w1 hown1 hb1)
            go_roundw
            case rel => exact ⟨k + 1, by omega, by go_num, by rw [HN.out]; go_num, by rw [HN.out]; simpa [sv] using hown1, hb2.trans hb1⟩
            case measure => simp [intOf]; omega
          · have hcf : cutB b b.size s[k] = false := by simpa using hcut
            have HN : Hid (pieces s b (k + 1) = pieces s b k) := pieces_none hlt hcf
            clear hcut
            go_wp2
            go_roundw
            case rel => exact ⟨k + 1, by omega, by go_num, by rw [HN.out], by rw [HN.out]; exact hown, hb2⟩
            case measure => simp [intOf]; omega
        · obtain rfl : k = s.size := by omega
          have HS : Hid (splitL s b = (pieces s b s.size).1 ++ [s.extract (pieces s b s.size).2 s.size]) := rfl
          have hbelow : Below w.heap.size w wr := hbel.trans (hb2.mono (by omega))
          clear hT hT2
          generalize (pieces s b s.size).2 = f at *
          generalize (pieces s b s.size).1 = ps at *
          go_wp2_with (at_builtin; refine wpList_append1 Tryz.sliceStr rfl _ _ rfl wr (w.heap.size + 1) _ _ _ hown rfl #[.string (s.extract f s.size)] 1 rfl rfl (by simp [Value.oneCell']) (by omega) (by omega) (by omega) ?_; intro v' w1 hown1 hb1)
          go_ret
          refine ⟨v', rfl, ?_, hbelow.trans (hb1.mono (by omega))⟩
          rw [HS.out]
          exact own_lower (by simpa [sv] using hown1) (by omega)
end Go.Proofs.YtdagomikjblgiaaGreatDoor
