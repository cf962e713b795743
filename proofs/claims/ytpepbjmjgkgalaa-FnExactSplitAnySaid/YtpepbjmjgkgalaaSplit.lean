/-
  What SplitAny and SplitLines answer, of the program and of the reference: walks (contracts) over their translation.
-/
import Derived.Test.YtpepbjmjgkgalaaMarkS
import Derived.OwnWalk
namespace Go.Proofs.Ytpepbjmjgkgalaa
open Go.RowKit
set_option linter.unusedVariables false

/-- does the byte occur in by, before place i? -/
def cutB (by_ : ByteArray) (i : Nat) (c : UInt8) : Bool := decide (∃ k, ∃ h : k < by_.size, k < i ∧ by_[k] = c)
theorem cutB_zero (b : ByteArray) (c : UInt8) : cutB b 0 c = false := by
  simp only [cutB, decide_eq_false_iff_not]; intro ⟨k, _, h, _⟩; omega
theorem cutB_hit {b : ByteArray} {i : Nat} (hi : i < b.size) : cutB b (i + 1) b[i] = true := decide_eq_true ⟨i, hi, by omega, rfl⟩
theorem cutB_step {b : ByteArray} {i : Nat} {c : UInt8} (hi : i < b.size) (h : b[i] ≠ c) : cutB b (i + 1) c = cutB b i c := by
  unfold cutB
  apply decide_eq_decide.2
  constructor
  · rintro ⟨k, hk, hki, hc⟩
    by_cases e : k = i
    · subst e; exact absurd hc h
    · exact ⟨k, hk, by omega, hc⟩
  · rintro ⟨k, hk, hki, hc⟩; exact ⟨k, hk, by omega, hc⟩
/-- the pieces that are complete before place i, and where the next one begins -/
def pieces (s by_ : ByteArray) : Nat → List ByteArray × Nat
  | 0 => ([], 0)
  | i + 1 => if cutB by_ by_.size (s.data.getD i 0) then ((pieces s by_ i).1 ++ [s.extract (pieces s by_ i).2 i], i + 1) else pieces s by_ i
theorem data_getD {s : ByteArray} {i : Nat} (h : i < s.size) : s.data.getD i 0 = s[i] := by
  have h' : i < s.data.size := h
  simp [Array.getD, h]; rfl
theorem pieces_cut {s b : ByteArray} {i : Nat} (hi : i < s.size) (h : cutB b b.size s[i] = true) : pieces s b (i + 1) = ((pieces s b i).1 ++ [s.extract (pieces s b i).2 i], i + 1) := by
  rw [pieces, data_getD hi, if_pos h]
theorem pieces_none {s b : ByteArray} {i : Nat} (hi : i < s.size) (h : cutB b b.size s[i] = false) : pieces s b (i + 1) = pieces s b i := by
  rw [pieces, data_getD hi, if_neg (by rw [h]; simp)]
theorem pieces_le (s b : ByteArray) : ∀ i, (pieces s b i).2 ≤ i ∧ (pieces s b i).1.length ≤ i
  | 0 => ⟨Nat.le_refl _, Nat.le_refl _⟩
  | i + 1 => by
    have ih := pieces_le s b i
    rw [pieces]
    split
    · exact ⟨Nat.le_refl _, by simp; omega⟩
    · omega
def splitL (s b : ByteArray) : List ByteArray := (pieces s b s.size).1 ++ [s.extract (pieces s b s.size).2 s.size]
theorem splitL_len (s b : ByteArray) : 0 < (splitL s b).length ∧ (splitL s b).length ≤ s.size + 1 := by
  have := pieces_le s b s.size
  simp [splitL]; omega

/-- the table of the bytes that cut: block g holds 256 bools -/
def Table (w : World) (g : Nat) (T : TypeId) (f : UInt8 → Bool) : Prop :=
  ∃ cur : Array Value, w.heap[g]? = some (.cells cur T (0, 0)) ∧ ∀ c : UInt8, cur[c.toNat]? = some (.bool (f c))
theorem Table.cell {w : World} {g : Nat} {T : TypeId} {f : UInt8 → Bool} (h : Table w g T f) (c : UInt8) : w.cell? ⟨g, c.toNat, none⟩ = some (.bool (f c)) ∧ w.frozen? ⟨g, c.toNat, none⟩ = false := by
  obtain ⟨cur, h1, h2⟩ := h
  exact ⟨(cell_of_row w g c.toNat cur T (0, 0) h1).trans (h2 c), frozen_of_row w g c.toNat cur T h1⟩
theorem Table.below {w w' : World} {g B : Nat} {T : TypeId} {f : UInt8 → Bool} (h : Table w g T f) (hb : Below B w w') (hg : g < B) : Table w' g T f := by
  obtain ⟨cur, h1, h2⟩ := h
  exact ⟨cur, (hb.block g hg).trans h1, h2⟩
theorem Table.set {w : World} {g : Nat} {T : TypeId} {f f' : UInt8 → Bool} (h : Table w g T f) (c : UInt8) (v : Bool) (hv : f' c = v) (ho : ∀ d, d ≠ c → f' d = f d) : Table (w.setCell ⟨g, c.toNat, none⟩ (.bool v)) g T f' := by
  obtain ⟨cur, h1, h2⟩ := h
  refine ⟨cur.setIfInBounds c.toNat (.bool v), heap_setCell_same w g c.toNat cur T _ h1, fun d => ?_⟩
  by_cases e : d = c
  · subst e
    have hlt : d.toNat < cur.size := (Array.getElem?_eq_some_iff.1 (h2 d)).1
    rw [Array.getElem?_setIfInBounds_self_of_lt hlt, hv]
  · have hne : c.toNat ≠ d.toNat := fun h => e (UInt8.toNat_inj.1 h.symm)
    rw [Array.getElem?_setIfInBounds_ne hne, h2 d, ho d e]

theorem Try.zeroTab (w : World) : (zeroValue 36).run Try.prog w = .ok (.agg (Array.replicate 256 (.bool false))) w := by kernel_rfl
theorem Table.new (w : World) (T : TypeId) (b : ByteArray) : Table (w.alloc (.cells (Array.replicate 256 (.bool false)) T)) w.heap.size T (cutB b 0) := by
  refine ⟨_, heap_alloc_new w _, fun c => ?_⟩
  have : c.toNat < 256 := c.toNat_lt
  rw [cutB_zero]
  simp [this]

set_option maxHeartbeats 800000 in
theorem impl_SplitAny (s b : ByteArray) (w : World) (hs : s.size ≤ 1099511627776) (hb : b.size ≤ 1099511627776) :
    Calls Try.prog 14 #[.string s, .string b] w fun e w' => ∃ v, e = .returned v ∧ w'.ownsRow w.heap.size 9 1 v (splitL s b).length (sv (splitL s b)) ∧ Below w.heap.size w w' := by
  have hT0 := Table.new w 36 b
  obtain ⟨cs, hcs⟩ : ∃ cs : Array Value, cs = Array.replicate 256 (.bool false) := ⟨_, rfl⟩
  have hz := Try.zeroTab
  rw [← hcs] at hT0
  simp only [← hcs] at hz
  clear hcs
  go_enter Try.func14, Try.ntmps14
  go_wp2
  go_loopw [6, 12] (fun _ i wr => ∃ k : Nat, k ≤ b.size ∧ i = .int .i64 k ∧ Table wr w.heap.size 36 (cutB b k) ∧ w.heap.size + 1 ≤ wr.heap.size ∧ Below w.heap.size w wr) (fun _ i _ => b.size - (intOf i).toNat)
  case atStart => exact ⟨0, Nat.zero_le _, rfl, hT0, by simp, (Below.refl _ _).alloc (Nat.le_refl _) _⟩
  case round =>
    clear hT0 hz
    obtain ⟨k, hk, rfl, hT, hsz, hbel⟩ := hrel
    by_cases hlt : k < b.size
    · obtain ⟨hc1, hf1⟩ := hT.cell b[k]
      have hT' := hT.set (f' := cutB b (k + 1)) b[k] true (cutB_hit hlt) (fun d hd => cutB_step hlt (Ne.symm hd))
      have hb' : b[k].toNat < 256 := b[k].toNat_lt
      clear hT
      go_wp2
      go_roundw
      case rel => exact ⟨k + 1, by omega, by go_num, hT', by simpa using hsz, hbel.setCell (Nat.le_refl _) _⟩
      case measure => simp [intOf]; omega
    · obtain rfl : k = b.size := by omega
      clear hlt hk
      obtain ⟨W, hW⟩ : ∃ W, W = wr := ⟨_, rfl⟩
      subst hW
      go_wp2
      go_loopw [7, 8, 22] (fun v f i wr => ∃ k : Nat, k ≤ s.size ∧ i = .int .i64 k ∧ f = .int .i64 ((pieces s b k).2 : Nat) ∧ wr.ownsRow (w.heap.size + 1) 9 1 v (pieces s b k).1.length (sv (pieces s b k).1) ∧ Below (w.heap.size + 1) W wr) (fun _ _ i _ => s.size - (intOf i).toNat)
      case atStart => exact ⟨0, Nat.zero_le _, rfl, rfl, World.ownsRow_nil _ _ _ _, Below.refl _ _⟩
      case round =>
        obtain ⟨k, hk, rfl, rfl, hown, hb2⟩ := hrel
        have hT2 := hT.below hb2 (by omega)
        have hsz2 : w.heap.size + 1 ≤ wr.heap.size := Nat.le_trans hsz hb2.size
        obtain ⟨hp1, hp2⟩ := pieces_le s b k
        by_cases hlt : k < s.size
        · obtain ⟨hc1, hf1⟩ := hT2.cell s[k]
          have hb' : s[k].toNat < 256 := s[k].toNat_lt
          by_cases hcut : cutB b b.size s[k] = true
          · have hpn := pieces_cut hlt hcut
            have HN : Hid (pieces s b (k + 1) = ((pieces s b k).1 ++ [s.extract (pieces s b k).2 k], k + 1)) := hpn
            clear hpn
            have hsl : (pieces s b k).2 ≤ k := hp1
            generalize (pieces s b k).2 = f at *
            generalize (pieces s b k).1 = ps at *
            go_wp2_with (at_builtin; refine wpList_append1 Try.sliceStr rfl _ _ rfl wr (w.heap.size + 1) _ _ _ hown rfl #[.string (s.extract f k)] 1 rfl rfl (by simp [Value.oneCell']) (by omega) (by omega) (by omega) ?_; intro v' w1 hown1 hb1)
            go_roundw
            case rel => exact ⟨k + 1, by omega, by go_num, by rw [HN.out]; go_num, by rw [HN.out]; simpa [sv] using hown1, hb2.trans hb1⟩
            case measure => simp [intOf]; omega
          · have hcf : cutB b b.size s[k] = false := by simpa using hcut
            have HN : Hid (pieces s b (k + 1) = pieces s b k) := pieces_none hlt hcf
            clear hcut
            go_wp2
            go_roundw
            case rel => exact ⟨k + 1, by omega, by go_num, by rw [HN.out], by rw [HN.out]; exact hown, hb2⟩
            case measure => simp [intOf]; omega
        · obtain rfl : k = s.size := by omega
          have HS : Hid (splitL s b = (pieces s b s.size).1 ++ [s.extract (pieces s b s.size).2 s.size]) := rfl
          have hbelow : Below w.heap.size w wr := hbel.trans (hb2.mono (by omega))
          clear hT hT2
          generalize (pieces s b s.size).2 = f at *
          generalize (pieces s b s.size).1 = ps at *
          go_wp2_with (at_builtin; refine wpList_append1 Try.sliceStr rfl _ _ rfl wr (w.heap.size + 1) _ _ _ hown rfl #[.string (s.extract f s.size)] 1 rfl rfl (by simp [Value.oneCell']) (by omega) (by omega) (by omega) ?_; intro v' w1 hown1 hb1)
          go_ret
          refine ⟨v', rfl, ?_, hbelow.trans (hb1.mono (by omega))⟩
          rw [HS.out]
          exact own_lower (by simpa [sv] using hown1) (by omega)

set_option maxHeartbeats 1600000 in
theorem spec_SplitAny (s b : ByteArray) (w : World) (hs : s.size ≤ 1099511627776) (hb : b.size ≤ 1099511627776) :
    Calls Try.prog 13 #[.string s, .string b] w fun e w' => ∃ v, e = .returned v ∧ w'.ownsRow w.heap.size 9 1 v (splitL s b).length (sv (splitL s b)) ∧ Below w.heap.size w w' := by
  go_enter Try.func13, Try.ntmps13
  go_wp2
  go_loopw [5, 6, 7] (fun v f i wr => ∃ k : Nat, k ≤ s.size ∧ i = .int .i64 k ∧ f = .int .i64 ((pieces s b k).2 : Nat) ∧ wr.ownsRow w.heap.size 9 1 v (pieces s b k).1.length (sv (pieces s b k).1) ∧ w.heap.size ≤ wr.heap.size ∧ Below w.heap.size w wr) (fun _ _ i _ => s.size - (intOf i).toNat)
  case atStart => exact ⟨0, Nat.zero_le _, rfl, rfl, World.ownsRow_made w #[] 0 (Nat.le_refl _) (by unfold maxLen; omega) rfl, by simp, (Below.refl _ _).alloc (Nat.le_refl _) _⟩
  case round =>
    obtain ⟨i, hi, rfl, rfl, hown, hsz, hbel⟩ := hrel
    obtain ⟨hp1, hp2⟩ := pieces_le s b i
    obtain ⟨wo, hwo⟩ : ∃ wo, wo = wr := ⟨_, rfl⟩
    subst hwo
    by_cases hlt : i < s.size
    · go_wp2
      go_loopw [5, 6, 8] (fun v f q wr => ∃ k d : Nat, k ≤ b.size ∧ q = .int .i64 k ∧ v = u5 ∧ f = .int .i64 ((pieces s b i).2 : Nat) ∧ wr = wo.drewN d ∧ Hid (cutB b k s[i] = false)) (fun _ _ q _ => b.size - (intOf q).toNat)
      case atStart => exact ⟨0, 0, Nat.zero_le _, rfl, rfl, rfl, rfl, cutB_zero b _⟩
      case round =>
        obtain ⟨k, d, hk, rfl, rfl, rfl, rfl, H⟩ := hrel
        by_cases hlk : k < b.size
        · by_cases he : s[i] = b[k]
          · have hq : ((s[i].toNat : Int) == (b[k].toNat : Int)) = true := by rw [he]; simp
            have hcut : cutB b b.size s[i] = true := decide_eq_true ⟨k, hlk, hlk, he.symm⟩
            have HN : Hid (pieces s b (i + 1) = ((pieces s b i).1 ++ [s.extract (pieces s b i).2 i], i + 1)) := pieces_cut hlt hcut
            clear he hcut H
            generalize (pieces s b i).2 = f at *
            generalize (pieces s b i).1 = ps at *
            go_wp2_with fail
            go_quiet (fail)
            have hownW : World.ownsRow ((wo.drewN d).drewN nq) w.heap.size 9 1 u5 ps.length (sv ps) := hown
            have hbW : Below w.heap.size w ((wo.drewN d).drewN nq) := below_drewN (below_drewN hbel d) nq
            have hsW : w.heap.size ≤ ((wo.drewN d).drewN nq).heap.size := hsz
            generalize (wo.drewN d).drewN nq = W at *
            go_wp2_with (at_builtin; refine wpList_append1 Try.sliceStr rfl _ _ rfl W w.heap.size _ _ _ hownW rfl #[.string (s.extract f i)] 1 rfl rfl (by simp [Value.oneCell']) (by omega) (by omega) (by omega) ?_; intro v' w1 hown1 hb1)
            have hb1s := hb1.size
            go_roundw
            case rel => exact ⟨i + 1, by omega, by go_num, by rw [HN.out]; go_num, by rw [HN.out]; simpa [sv] using hown1, by omega, hbW.trans hb1⟩
            case measure => simp [intOf]; omega
          · have hq : ((s[i].toNat : Int) == (b[k].toNat : Int)) = false := by
              rw [beq_eq_false_iff_ne]
              intro e
              exact he (UInt8.toNat_inj.1 (by omega))
            have HN : Hid (cutB b (k + 1) s[i] = false) := (cutB_step hlk (Ne.symm he)).trans H.out
            clear he H
            go_wp2_with fail
            go_quiet (fail)
            go_wp2
            go_roundw
            case rel => exact ⟨k + 1, d + nq, by omega, by go_num, rfl, rfl, rfl, HN⟩
            case measure => simp [intOf]; omega
        · obtain rfl : k = b.size := by omega
          have HN : Hid (pieces s b (i + 1) = pieces s b i) := pieces_none hlt H.out
          clear H
          go_wp2
          go_roundw
          case rel => exact ⟨i + 1, by omega, by go_num, by rw [HN.out], by rw [HN.out]; exact hown, hsz, below_drewN hbel d⟩
          case measure => simp [intOf]; omega
    · obtain rfl : i = s.size := by omega
      have HS : Hid (splitL s b = (pieces s b s.size).1 ++ [s.extract (pieces s b s.size).2 s.size]) := rfl
      generalize (pieces s b s.size).2 = f at *
      generalize (pieces s b s.size).1 = ps at *
      go_wp2_with (at_builtin; refine wpList_append1 Try.sliceStr rfl _ _ rfl wo w.heap.size _ _ _ hown rfl #[.string (s.extract f s.size)] 1 rfl rfl (by simp [Value.oneCell']) (by omega) (by omega) (by omega) ?_; intro v' w1 hown1 hb1)
      go_ret
      refine ⟨v', rfl, ?_, hbel.trans hb1⟩
      rw [HS.out]
      simpa [sv] using hown1
end Go.Proofs.Ytpepbjmjgkgalaa
