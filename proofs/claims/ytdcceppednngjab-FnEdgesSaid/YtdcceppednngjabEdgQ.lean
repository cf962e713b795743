/-
  Edges: plain: the program's height, and all that the law of edges asks: crossing does not depend on the order, the heights at the crossing are one, the height at an end is the end's.
-/
import Derived.Test.YtdcceppednngjabED
import Derived.Test.YtdcceppednngjabPB
import Derived.Test.YtdcceppednngjabBX
namespace Go.Proofs.Ytdcceppednngjab
open Go.RowKit
set_option linter.unusedVariables false
/-- the program's height: one fraction -/
def hgtI (a b c d : Int) (X : RQ) : RQ := lowR ((d - b) * zv X.1.1 X.1.2 + (b * c - a * d) * (natV X.2 : Int)) ((c - a).toNat * natV X.2)
def hgA (b d : Int) (X : RQ) : Bool × List Int := mulZ (capZ (d - b)).1 (capZ (d - b)).2 X.1.1 X.1.2
def hgC (a b c d : Int) (X : RQ) : Bool × List Int := mulZ (capZ (b * c - a * d)).1 (capZ (b * c - a * d)).2 false X.2
def hgS (a b c d : Int) (X : RQ) : Bool × List Int := addZ (hgA b d X).1 (hgA b d X).2 (hgC a b c d X).1 (hgC a b c d X).2
def hgD (a c : Int) (X : RQ) : List Int := mulL (limbs (c - a).toNat) X.2
theorem hgt_off {a b c d : Int} (h : edgeB a b c d = true) : (b * c - a * d).natAbs ≤ 2000000 := by
  have h' := edge_iff.1 h
  have m1 := ab_mul (a := b) (b := c) (B := 1000) (C := 1000) (by omega) (by omega)
  have m2 := ab_mul (a := a) (b := d) (B := 1000) (C := 1000) (by omega) (by omega)
  omega
theorem hgt_ok {a b c d : Int} (h : edgeB a b c d = true) {X : RQ} (hX : ratQ X = true) :
    bigB (hgS a b c d X).1 (hgS a b c d X).2 = true ∧ natB (hgD a c X) = true ∧ (hgD a c X).isEmpty = false ∧ lowR (zv (hgS a b c d X).1 (hgS a b c d X).2) (natV (hgD a c X)) = hgtI a b c d X := by
  have h' := edge_iff.1 h
  have ho := hgt_off h
  have hn := ratB_big hX
  have hd := ratB_den hX
  have hs := ratB_short hX
  have zn : (zv X.1.1 X.1.2).natAbs < 1000000000 ^ 24 := by rw [zv_abs (bigB_nat hn)]; exact natV_24 (bigB_nat hn) hs.1
  have zd : natV X.2 < 1000000000 ^ 24 := natV_24 hd hs.2
  have p24 : (1000000000 : Nat) ^ 24 * 2000000 < 1000000000 ^ 30 := by decide +kernel
  have p30 : (1000000000 : Nat) ^ 30 + 1000000000 ^ 30 < 1000000000 ^ 60 := by decide +kernel
  have b1 : ((d - b) * zv X.1.1 X.1.2).natAbs < 1000000000 ^ 30 := by
    have := ab_mul (a := d - b) (b := zv X.1.1 X.1.2) (B := 2000000) (C := 1000000000 ^ 24) (by omega) (by omega)
    rw [Nat.mul_comm] at this; omega
  have b2 : ((b * c - a * d) * (natV X.2 : Int)).natAbs < 1000000000 ^ 30 := by
    have := ab_mul (a := b * c - a * d) (b := (natV X.2 : Int)) (B := 2000000) (C := 1000000000 ^ 24) (by omega) (by omega)
    rw [Nat.mul_comm] at this; omega
  have b3 : (c - a).toNat * natV X.2 < 1000000000 ^ 60 := by
    have := Nat.mul_le_mul (show (c - a).toNat ≤ 2000000 by omega) (show natV X.2 ≤ 1000000000 ^ 24 by omega)
    rw [Nat.mul_comm 2000000] at this; omega
  have small : ∀ z : Int, z.natAbs ≤ 2000000 → z.natAbs < 1000000000 ^ 60 := fun z hz => Nat.lt_of_le_of_lt hz (by decide +kernel)
  obtain ⟨r1, r2, _, _⟩ := capZ_back (small (d - b) (by omega))
  obtain ⟨o1, o2, _, _⟩ := capZ_back (small _ ho)
  have eA : hgA b d X = capZ ((d - b) * zv X.1.1 X.1.2) := by unfold hgA; rw [mulZ, r1, hn, r2]; rfl
  have vd : zv false X.2 = (natV X.2 : Int) := by rw [← zval hd]; rfl
  have eC : hgC a b c d X = capZ ((b * c - a * d) * (natV X.2 : Int)) := by unfold hgC; rw [mulZ, o1, nat_big hd, o2, vd]; rfl
  obtain ⟨s1, s2, _, _⟩ := capZ_back (z := (d - b) * zv X.1.1 X.1.2) (by omega)
  obtain ⟨t1, t2, _, _⟩ := capZ_back (z := (b * c - a * d) * (natV X.2 : Int)) (by omega)
  have eS : hgS a b c d X = capZ ((d - b) * zv X.1.1 X.1.2 + (b * c - a * d) * (natV X.2 : Int)) := by unfold hgS; rw [eA, eC, addZ, s1, t1, s2, t2]; rfl
  have hsum := Int.natAbs_add_le ((d - b) * zv X.1.1 X.1.2) ((b * c - a * d) * (natV X.2 : Int))
  obtain ⟨u1, u2, _, _⟩ := capZ_back (z := (d - b) * zv X.1.1 X.1.2 + (b * c - a * d) * (natV X.2 : Int)) (by omega)
  have nl : natB (limbs (c - a).toNat) = true ∧ natV (limbs (c - a).toNat) = (c - a).toNat := ⟨natB_limbs (Nat.lt_of_le_of_lt (show (c - a).toNat ≤ 2000000 by omega) (by decide +kernel)), natV_limbs _⟩
  have ne : (limbs (c - a).toNat).isEmpty = false := by rw [limbs_pos (by omega)]; rfl
  obtain ⟨_, d2, d3⟩ := den_mulL nl.1 hd (by rw [nl.2]; exact b3)
  have d4 := den_pos nl.1 hd ne (ratB_pos hX) (by rw [nl.2]; exact b3)
  refine ⟨by rw [eS]; exact u1, d2, d4, ?_⟩
  rw [eS, u2, show natV (hgD a c X) = _ from d3, nl.2]
  rfl
theorem hgtI_S {a b c d : Int} (h : edgeB a b c d = true) {X : RQ} {z : Int} {m B : Nat} (hX : IsS X z m B) (hB : B ≤ 1000000000000000000) : IsV (hgtI a b c d X) ((((d - b) * z + (b * c - a * d) * (m : Int) : Int) : Rat) / (((c - a).toNat * m : Nat) : Rat)) (4000000 * B) := by
  have h' := edge_iff.1 h
  have ho := hgt_off h
  obtain ⟨⟨_, hr, g, hg, e1, e2⟩, hz, hm⟩ := hX
  have hp := natV_pos (ratB_den hr) (ratB_pos hr)
  have hrun : 0 < (c - a).toNat := by omega
  have e : hgtI a b c d X = lowR ((d - b) * z + (b * c - a * d) * (m : Int)) ((c - a).toNat * m) := by
    unfold hgtI
    refine lowR_congr (Nat.mul_pos hrun hp) (by rw [← e2]; exact Nat.mul_pos hrun (Nat.mul_pos hp hg)) ?_
    rw [← e1, ← e2]
    push_cast
    grind
  rw [e]
  refine IsV.of (low_S (by rw [← e2]; exact Nat.mul_pos hrun (Nat.mul_pos hp hg)) ?_ ?_ ?_)
  · have m1 := ab_mul (a := d - b) (b := z) (B := 2000) (C := B) (by omega) hz
    have m2 := ab_mul (a := b * c - a * d) (b := (m : Int)) (B := 2000000) (C := B) ho (by simpa using hm)
    omega
  · have := Nat.mul_le_mul (show (c - a).toNat ≤ 2000 by omega) hm
    omega
  · have : (4000000 : Nat) * 1000000000000000000 < 1000000000 ^ 24 := by decide +kernel
    omega
/-- the height at the number x -/
theorem hgtI_V {a b c d : Int} (h : edgeB a b c d = true) {X : RQ} {x : Rat} {B : Nat} (hX : IsV X x B) (hB : B ≤ 1000000000000000000) : ∃ C, IsV (hgtI a b c d X) ((((d : Rat) - (b : Rat)) * x + ((b : Rat) * (c : Rat) - (a : Rat) * (d : Rat))) / ((c : Rat) - (a : Rat))) C := by
  obtain ⟨z, m, hS, rfl⟩ := hX
  have h' := edge_iff.1 h
  have hm := natQ_pos hS.dpos
  have n1 : ((c : Rat) - (a : Rat)) ≠ 0 := by
    have : ((c - a : Int) : Rat) ≠ 0 := by exact_mod_cast (show c - a ≠ 0 by omega)
    push_cast at this; exact this
  have e1 : (((c - a).toNat : Nat) : Rat) = (c : Rat) - (a : Rat) := by
    have : (((c - a).toNat : Nat) : Int) = c - a := by omega
    have := congrArg (Int.cast (R := Rat)) this
    push_cast at this
    exact_mod_cast this
  refine ⟨4000000 * B, ?_⟩
  have k := hgtI_S h hS hB
  have e : (((d - b) * z + (b * c - a * d) * (m : Int) : Int) : Rat) / (((c - a).toNat * m : Nat) : Rat) = (((d : Rat) - (b : Rat)) * ((z : Rat) / (m : Rat)) + ((b : Rat) * (c : Rat) - (a : Rat) * (d : Rat))) / ((c : Rat) - (a : Rat)) := by
    push_cast
    rw [e1]
    generalize ((m : Nat) : Rat) = m' at *
    generalize (z : Rat) = z' at *
    generalize (a : Rat) = a' at *
    generalize (b : Rat) = b' at *
    generalize (c : Rat) = c' at *
    generalize (d : Rat) = d' at *
    clear k e1 h' h hS hB
    have hm' : m' ≠ 0 := by intro x; rw [x] at hm; exact absurd hm (by decide)
    grind
  rw [e] at k
  exact k
theorem crsD_flip (a b c d p q r s : Int) : crsD p q r s a b c d = -crsD a b c d p q r s := by unfold crsD; rw [Int.neg_sub]
theorem crsN_flip (a b c d p q r s : Int) : crsN p q r s a b c d = -crsN a b c d p q r s := by unfold crsN; rw [Int.neg_sub]
theorem crsX_flip {a b c d p q r s : Int} (h : edgeB a b c d = true) (k : edgeB p q r s = true) : crsX p q r s a b c d = crsX a b c d p q r s := by
  by_cases h0 : crsD a b c d p q r s = 0
  · rw [crsX_no h k h0, crsX_no k h (by rw [crsD_flip, h0]; rfl)]
  · have h1 : crsD p q r s a b c d ≠ 0 := by rw [crsD_flip]; omega
    have u := crsX_V h k h0
    have v := crsX_V k h h1
    refine rv_inj v.ok u.ok ?_
    rw [u.rv, v.rv, crsD_flip, crsN_flip]
    push_cast
    grind
theorem crs_flip {a b c d p q r s : Int} (h : edgeB a b c d = true) (k : edgeB p q r s = true) : crsB p q r s a b c d = crsB a b c d p q r s ∧ crossQ p q r s a b c d = crossQ a b c d p q r s := by
  have e : crsB p q r s a b c d = crsB a b c d p q r s := by unfold crsB; rw [crsX_flip h k, Bool.and_comm]
  exact ⟨e, by unfold crossQ; rw [e, crsX_flip h k]⟩
/-- where two edges cross, their heights are one -/
theorem crs_hgt {a b c d p q r s : Int} (h : edgeB a b c d = true) (k : edgeB p q r s = true) (hc : crsB a b c d p q r s = true) : ratQ (crsX a b c d p q r s) = true ∧ hgtI a b c d (crsX a b c d p q r s) = hgtI p q r s (crsX a b c d p q r s) ∧ QFit (hgtI a b c d (crsX a b c d p q r s)) := by
  have h' := edge_iff.1 h
  have k' := edge_iff.1 k
  have h0 : crsD a b c d p q r s ≠ 0 := fun e => by rw [crs_par h k e] at hc; exact absurd hc (by decide)
  have X := crsX_V h k h0
  obtain ⟨_, u⟩ := hgtI_V h X (by decide)
  obtain ⟨_, v⟩ := hgtI_V k X (by decide)
  refine ⟨X.ok, rv_inj u.ok v.ok ?_, u.fit⟩
  rw [u.rv, v.rv]
  have n1 : ((c - a : Int) : Rat) ≠ 0 := by exact_mod_cast (show c - a ≠ 0 by omega)
  have n2 : ((r - p : Int) : Rat) ≠ 0 := by exact_mod_cast (show r - p ≠ 0 by omega)
  have n3 : ((crsD a b c d p q r s : Int) : Rat) ≠ 0 := by exact_mod_cast h0
  have e3 : ((crsD a b c d p q r s : Int) : Rat) = ((d : Rat) - (b : Rat)) * ((r : Rat) - (p : Rat)) - ((s : Rat) - (q : Rat)) * ((c : Rat) - (a : Rat)) := by unfold crsD; push_cast; rfl
  have e4 : ((crsN a b c d p q r s : Int) : Rat) = ((q : Rat) * (r : Rat) - (p : Rat) * (s : Rat)) * ((c : Rat) - (a : Rat)) - ((b : Rat) * (c : Rat) - (a : Rat) * (d : Rat)) * ((r : Rat) - (p : Rat)) := by unfold crsN; push_cast; rfl
  push_cast at n1 n2
  generalize ((crsD a b c d p q r s : Int) : Rat) = D at *
  generalize ((crsN a b c d p q r s : Int) : Rat) = N at *
  clear u v X h0 hc h' k' h k
  generalize (a : Rat) = a at *
  generalize (b : Rat) = b at *
  generalize (c : Rat) = c at *
  generalize (d : Rat) = d at *
  generalize (p : Rat) = p at *
  generalize (q : Rat) = q at *
  generalize (r : Rat) = r at *
  generalize (s : Rat) = s at *
  have hx : (N / D) * D = N := by grind
  generalize N / D = x at *
  have key : (r - p) * ((d - b) * x + (b * c - a * d)) = (c - a) * ((s - q) * x + (q * r - p * s)) := by
    have : x * D = N := hx
    rw [e3, e4] at this
    grind
  generalize c - a = u at *
  generalize r - p = v at *
  grind
/-- the height at the left end -/
theorem end_hgt {a b c d : Int} (h : edgeB a b c d = true) : hgtI a b c d (intQ a) = intQ b := by
  have h' := edge_iff.1 h
  obtain ⟨_, u⟩ := hgtI_V h (int_V h'.1.1) (by decide)
  have v := int_V h'.1.2
  refine rv_inj u.ok v.ok ?_
  rw [u.rv, v.rv]
  have n1 : ((c - a : Int) : Rat) ≠ 0 := by exact_mod_cast (show c - a ≠ 0 by omega)
  push_cast at n1
  clear u v h' h
  generalize (a : Rat) = a at *
  generalize (b : Rat) = b at *
  generalize (c : Rat) = c at *
  generalize (d : Rat) = d at *
  grind
theorem cq_self {Z : RQ} (h : ratQ Z = true) : cqR Z Z = 0 := (cq_rv h h).2.1.2 rfl
theorem end_span {a b c d : Int} (h : edgeB a b c d = true) : spanB a b c d (intQ a) (intQ c) = true := by
  have h' := edge_iff.1 h
  have k1 := (int_V h'.1.1).ok
  have k2 := (int_V h'.2.1.1).ok
  unfold spanB
  rw [h, k1, k2, cq_self k1, cq_self k2]; rfl
theorem end_lvl {a b c d : Int} (h : edgeB a b c d = true) : lvlB a b c d b = decide (b ≠ d) ∧ (b ≠ d → lvlQ a b c d b = intQ a) := by
  have h' := edge_iff.1 h
  have k : edgeB a b c b = true := by rw [lvl_edge h]; exact decide_eq_true h'.1.2
  by_cases h0 : b = d
  · rw [decide_eq_false (by omega)]
    exact ⟨crs_par h k ((lvl_D h).2 h0), fun e => absurd h0 e⟩
  · have hD : crsD a b c d a b c b ≠ 0 := fun e => h0 ((lvl_D h).1 e)
    have X := crsX_V h k hD
    have A := int_V h'.1.1
    have e : crsX a b c d a b c b = intQ a := by
      refine rv_inj X.ok A.ok ?_
      rw [X.rv, A.rv]
      have n1 : ((c - a : Int) : Rat) ≠ 0 := by exact_mod_cast (show c - a ≠ 0 by omega)
      have n2 : ((d - b : Int) : Rat) ≠ 0 := by exact_mod_cast (show d - b ≠ 0 by omega)
      unfold crsN crsD
      push_cast at *
      clear X A hD k h' h h0
      generalize (a : Rat) = a at *
      generalize (b : Rat) = b at *
      generalize (c : Rat) = c at *
      generalize (d : Rat) = d at *
      grind
    have hc : (0 : Int) ≤ cqR (intQ c) (intQ a) := by
      have K := int_V h'.2.1.1
      have := (cq_rv K.ok A.ok).2.2.2 (by rw [K.rv, A.rv]; exact_mod_cast h'.2.2)
      omega
    have hs : spanB a b c d (intQ a) (intQ a) = true := by
      unfold spanB
      rw [h, A.ok, cq_self A.ok, decide_eq_true hc]; rfl
    have hb : lvlB a b c d b = true := by
      show crsB a b c d a b c b = true
      unfold crsB
      rw [e]
      have := lvl_span (y := b) h h'.1.2 (intQ a)
      rw [this]; exact hs
    rw [decide_eq_true h0]
    refine ⟨hb, fun _ => ?_⟩
    show crossQ a b c d a b c b = intQ a
    unfold crossQ
    rw [show crsB a b c d a b c b = true from hb, if_pos rfl, e]
end Go.Proofs.Ytdcceppednngjab
