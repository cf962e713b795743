/-
  The texts PolC, PolE, put together; each has its own heading below. No condition of ours.
-/
import Derived.Test.YtafhhemojdblpaaGreatPB
import Derived.Test.YtafhhemojdblpaaGreatRX
import Derived.Test.YtafhhemojdblpaaGreatBX
import Derived.Test.YtafhhemojdblpaaGreatPolI
import Derived.Test.YtafhhemojdblpaaGreatRJ
import Derived.Test.YtafhhemojdblpaaGreatIA
import Derived.Test.YtafhhemojdblpaaGreatPI
/-
  The side of a scaled point: sideOf, at numbers in range.
-/
namespace Go.Proofs.YtafhhemojdblpaaGreat
open Go.RowKit
set_option linter.unusedVariables false
theorem wf_small {x:Int} (h:-1000000≤x) (h':x≤1000000):(Lit.int .i64 x).wf=true:=WalkArith.wf_i64 ⟨by omega,by omega⟩
theorem small_mul {a S:Int} (hS:S.natAbs≤1000) (ha:a.natAbs≤1000):(a * S).natAbs≤1000000000000:=by
 rw [Int.natAbs_mul]
 exact Nat.le_trans (Nat.mul_le_mul ha hS) (by omega)
theorem small_mul2 {a S:Int} (hS:S.natAbs≤1000) (ha:a.natAbs≤1000):(a * S).natAbs≤1000000:=by
 rw [Int.natAbs_mul]
 exact Nat.le_trans (Nat.mul_le_mul ha hS) (by omega)
theorem small_prod {a b:Int} (ha:a.natAbs≤2000) (hb:b.natAbs≤2000000):(a * b).natAbs≤1000000000000:=by
 rw [Int.natAbs_mul]
 exact Nat.le_trans (Nat.mul_le_mul ha hb) (by omega)
theorem cmpC (W:World) (a b:Int) (A1:Option Addr) (c1:Nat) (R1:RdI W W.heap.size A1 (capZ a).2.length (capZ a).2) (A2:Option Addr) (c2:Nat) (R2:RdI W W.heap.size A2 (capZ b).2.length (capZ b).2) (ha:inRc a) (hb:inRc b) :
 Calls Tryz.prog 41 #[.agg #[.bool (capZ a).1,.slice A1 (capZ a).2.length c1],.agg #[.bool (capZ b).1,.slice A2 (capZ b).2.length c2]] W fun e w'=>e=.returned (.int .i64 (cmpV a b))∧Below W.heap.size W w':=by
 have h:=impl_BigIntCmp W W.heap.size (Nat.le_refl _) (capZ a).1 A1 _ c1 (capZ a).2 R1 (capZ b).1 A2 _ c2 (capZ b).2 R2
 rw [cmpZ_cap2 ha hb] at h
 exact h
theorem mulC (W:World) (a b:Int) (A1:Option Addr) (c1:Nat) (R1:RdI W W.heap.size A1 (capZ a).2.length (capZ a).2) (A2:Option Addr) (n2 c2:Nat) (R2:RdI W W.heap.size A2 n2 (capZ b).2) (ha:inRc a) (hb:inRc b) :
 Calls Tryz.prog 84 #[.agg #[.bool (capZ a).1,.slice A1 (capZ a).2.length c1],.agg #[.bool (capZ b).1,.slice A2 n2 c2]] W fun e w'=>∃ v,e=.returned (.agg #[.bool (capZ (a * b)).1,v])∧Own w' W.heap.size w'.heap.size 3 v (capZ (a * b)).2.length (iv (capZ (a * b)).2)∧Below W.heap.size W w':=by
 have h:=impl_BigIntMul W W.heap.size (Nat.le_refl _) (capZ a).1 A1 _ c1 (capZ a).2 R1 (capZ b).1 A2 n2 c2 (capZ b).2 R2
 rw [mulZ_capC ha hb] at h
 exact h
theorem subC (W:World) (a b:Int) (A1:Option Addr) (n1 c1:Nat) (R1:RdI W W.heap.size A1 n1 (capZ a).2) (A2:Option Addr) (c2:Nat) (R2:RdI W W.heap.size A2 (capZ b).2.length (capZ b).2) (ha:inRc a) (hb:inRc b) :
 Calls Tryz.prog 83 #[.agg #[.bool (capZ a).1,.slice A1 n1 c1],.agg #[.bool (capZ b).1,.slice A2 (capZ b).2.length c2]] W fun e w'=>∃ v,e=.returned (.agg #[.bool (capZ (a - b)).1,v])∧Own w' W.heap.size w'.heap.size 3 v (capZ (a - b)).2.length (iv (capZ (a - b)).2)∧Below W.heap.size W w':=by
 have h:=impl_BigIntSub W W.heap.size (Nat.le_refl _) (capZ a).1 A1 n1 c1 (capZ a).2 R1 (capZ b).1 A2 _ c2 (capZ b).2 R2
 rw [subZ_capC ha hb] at h
 exact h
set_option maxRecDepth 100000 in
set_option maxHeartbeats 6400000 in
theorem impl_sideOf (w:World) (B:Nat) (hB:B≤w.heap.size) (X Y S:Int) (AX AY AS:Option Addr) (nX cX nY cY nS cS:Nat) (RX:RdI w B AX nX (capZ X).2) (RY:RdI w B AY nY (capZ Y).2) (RS:RdI w B AS nS (capZ S).2) (hX:X.natAbs≤1000000) (hY:Y.natAbs≤1000000) (hS:S.natAbs≤1000) (ax ay bx b_y:Int) (ha:vecB ax ay=true) (hb:vecB bx b_y=true) :
 Calls Tryz.prog 47 #[.agg #[.bool (capZ X).1,.slice AX nX cX,.bool (capZ Y).1,.slice AY nY cY,.bool (capZ S).1,.slice AS nS cS],.agg #[.int .i64 ax,.int .i64 ay],.agg #[.int .i64 bx,.int .i64 b_y]] w fun e w'=>e=.returned (.int .i64 (cmpV ((bx - ax) * (Y - ay * S)) ((b_y - ay) * (X - ax * S))))∧Below w.heap.size w w':=by
 obtain ⟨W0,hW0⟩:∃ W0,W0=(((w.alloc (.cells #[.bool (capZ X).1,.slice AX nX cX,.bool (capZ Y).1,.slice AY nY cY,.bool (capZ S).1,.slice AS nS cS] 76)).alloc (.cells #[.int .i64 ax,.int .i64 ay] 44)).alloc (.cells #[.int .i64 bx,.int .i64 b_y] 44)):=⟨_,rfl⟩
 have hb0:Below w.heap.size w W0:=by rw [hW0];exact below_alloc (below_alloc (below_new _ _) _) _
 have kp:Box W0 (w.heap.size) 76 #[.bool (capZ X).1,.slice AX nX cX,.bool (capZ Y).1,.slice AY nY cY,.bool (capZ S).1,.slice AS nS cS]:=by rw [hW0];exact ((Box.last _ _ _ rfl).alloc _).alloc _
 have ka:Box W0 (w.heap.size+1) 44 #[.int .i64 ax,.int .i64 ay]:=by rw [hW0];exact (Box.last _ _ _ (alloc_size _ _).symm).alloc _
 have kb:Box W0 (w.heap.size+2) 44 #[.int .i64 bx,.int .i64 b_y]:=by rw [hW0];exact Box.last _ _ _ (by rw [alloc_size,alloc_size])
 have hs0:W0.heap.size=w.heap.size+3:=by rw [hW0,alloc_size,alloc_size,alloc_size]
 have hav:-1000≤ax∧ax≤1000∧-1000≤ay∧ay≤1000:=by unfold vecB at ha;simp at ha;omega
 have hbv:-1000≤bx∧bx≤1000∧-1000≤b_y∧b_y≤1000:=by unfold vecB at hb;simp at hb;omega
 have RX:=RX.below (hb0.mono hB)
 have RY:=RY.below (hb0.mono hB)
 have RS:=RS.below (hb0.mono hB)
 have HP:=hide kp
 have HA:=hide ka
 have HBB:=hide kb
 clear kp ka kb ha hb
 go_enter Tryz.func47,Tryz.ntmps47
 go_upto_region 1 with fail
 rw [←hW0]
 clear hW0
 have hBW:B≤W0.heap.size:=by omega
 have hwW:w.heap.size+3≤W0.heap.size:=by omega
 clear hs0
 have HKS:=hide (fun (W:World) (hq:Below W0.heap.size W0 W)=>(⟨(HP.out.below hq HP.out.lt).cell 0,(HP.out.below hq HP.out.lt).cell 1,(HP.out.below hq HP.out.lt).cell 4,(HP.out.below hq HP.out.lt).cell 5,(HA.out.below hq HA.out.lt).cell 0⟩:W.cell? ⟨w.heap.size,0,none⟩=some (.bool (capZ X).1)∧W.cell? ⟨w.heap.size,1,none⟩=some (.slice AX nX cX)∧W.cell? ⟨w.heap.size,4,none⟩=some (.bool (capZ S).1)∧W.cell? ⟨w.heap.size,5,none⟩=some (.slice AS nS cS)∧W.cell? ⟨w.heap.size+1,0,none⟩=some (.int .i64 ax)))
 have HS0:Hid (Below W0.heap.size W0 W0.drew):=(Below.refl _ _).drew
 have HS0a:Hid (Below W0.heap.size W0 (W0.alloc (.cells #[.bool false,.slice none 0 0] 25)).drew):=(below_new _ _).drew
 have HC1:=hide (fun (W:World)=>impl_BigIntOf W W.heap.size (Nat.le_refl _) ax (wf_small (by omega) (by omega)))
 have HC2:=hide (fun (W:World) (h:Below W0.heap.size W0 W) (A1:Option Addr) (c1:Nat) (R1:RdI W W.heap.size A1 (capZ ax).2.length (capZ ax).2)=>mulC W ax S A1 c1 R1 AS nS cS (pair_up (RS.below (h.mono hBW)) (by have:=h.size;omega)) (inR_small (by omega)) (inR_small (by omega)))
 have HC3:=hide (fun (W:World) (h:Below W0.heap.size W0 W) (A1:Option Addr) (c1:Nat) (R1:RdI W W.heap.size A1 (capZ (ax * S)).2.length (capZ (ax * S)).2)=>subC W X (ax * S) AX nX cX (pair_up (RX.below (h.mono hBW)) (by have:=h.size;omega)) A1 c1 R1 (inR_small (by omega)) (inR_small (small_mul hS (by omega))))
 obtain ⟨p0,p1,p2,p3,p4⟩:=HKS.out W0 (Below.refl _ _)
 go_cut [7] from 9 to 17 (fun sx wx=>VarOk W0 wx sx (capZ (X - ax * S)).1 (capZ (X - ax * S)).2 25 3)
 case first =>
  go_region_held3 (fun w'=>w'.cell? ⟨w.heap.size,0,none⟩=some (.bool (capZ X).1)∧w'.cell? ⟨w.heap.size,1,none⟩=some (.slice AX nX cX)∧w'.cell? ⟨w.heap.size,4,none⟩=some (.bool (capZ S).1)∧w'.cell? ⟨w.heap.size,5,none⟩=some (.slice AS nS cS)∧w'.cell? ⟨w.heap.size+1,0,none⟩=some (.int .i64 ax))
   (first | (with_reducible exact HKS.out _ (below_set2 HS3.out HS2.out.size _ _)) | (with_reducible exact HKS.out _ (below_set2 HS3.out HS1.out.size _ _)) | (with_reducible exact HKS.out _ (below_set2 HS3.out (Nat.le_refl _) _ _)) | (with_reducible exact HKS.out _ HS3.out) | (with_reducible exact HKS.out _ (below_alloc HS3.out _)) | (with_reducible exact HKS.out _ HS2.out) | (with_reducible exact HKS.out _ (below_alloc HS2.out _)) | (with_reducible exact HKS.out _ HS1.out) | (with_reducible exact HKS.out _ (below_alloc HS1.out _)) | (with_reducible exact HKS.out _ HS0.out) | (with_reducible exact HKS.out _ HS0a.out))
   (first
     | (go_at_call 54;refine (HC1.out _).mono ?_;rintro e u1 ⟨v1,rfl,e1,hb1⟩;obtain ⟨A1,c1,rfl⟩:=e1.form;have hz1:=hb1.size;have HS1:=hide (below_then (by with_reducible first | exact HS0.out | exact HS0a.out) hb1);have r1:=RdI.of_own e1 (capZ_len2 _) (capZ_limbs _))
     | (go_at_call 84;refine (HC2.out _ (by with_reducible first | exact HS1.out | exact below_alloc HS1.out _) _ _ (by first | (with_reducible exact r1) | (with_reducible exact rdI_alloc r1 _))).mono ?_;rintro e u2 ⟨v2,rfl,e2,hb2⟩;obtain ⟨A2,c2,rfl⟩:=e2.form;have hz2:=hb2.size;have HS2:=hide (below_then (by with_reducible first | exact HS1.out | exact below_alloc HS1.out _) hb2);have r2:=RdI.of_own e2 (capZ_len2 _) (capZ_limbs _))
     | (go_at_call 83;refine (HC3.out _ (by with_reducible first | exact HS2.out | exact below_alloc HS2.out _) _ _ (by first | (with_reducible exact r2) | (with_reducible exact rdI_alloc r2 _))).mono ?_;rintro e u3 ⟨v3,rfl,e3,hb3⟩;obtain ⟨A3,c3,rfl⟩:=e3.form;have hz3:=hb3.size;have HS3:=hide (below_then (by with_reducible first | exact HS2.out | exact below_alloc HS2.out _) hb3);first | (have kz:=kz_new hb3;obtain ⟨t0,t1,z0,z1⟩:=kz.facts) | (have kz:=(kz_new hb2).below hb3 (kz_new hb2).lt;obtain ⟨t0,t1,z0,z1⟩:=kz.facts) | (have kz:=((kz_drew hb1).below hb2 (kz_drew hb1).lt).below hb3 ((kz_drew hb1).below hb2 (kz_drew hb1).lt).lt;obtain ⟨t0,t1,z0,z1⟩:=kz.facts) | skip))
  all_goals
   go_wp2_with fail
   go_meet
   case rel =>
    try simp only [drew_size,alloc_size] at hz1 hz2 hz3
    first
     | exact varok_set kz HS3.out e3 (by (try simp only [alloc_size]);omega) (Nat.le_refl _) (by omega) (by (try simp only [alloc_size]);omega)
     | exact varok_last HS3.out e3 (by (try simp only [alloc_size]);omega) (Nat.le_refl _)
 case rest =>
  obtain ⟨g1,A1,c1,lo1,hi1,rfl,ks1,os1,hlo1,hhi1,hgg1,hgl1,hbS⟩:=hcut
  obtain ⟨V1,hV⟩:∃ x,x=wc:=⟨_,rfl⟩
  subst hV
  have hss:=hbS.size
  have hBW1:B≤V1.heap.size:=by omega
  have hwW1:w.heap.size+3≤V1.heap.size:=by omega
  have HP1:=hide (HP.out.below hbS HP.out.lt)
  have HA1:=hide (HA.out.below hbS HA.out.lt)
  have HBB1:=hide (HBB.out.below hbS HBB.out.lt)
  have RX1:=RX.below (hbS.mono hBW)
  have RY1:=RY.below (hbS.mono hBW)
  have RS1:=RS.below (hbS.mono hBW)
  have hT1:=below_then hb0 hbS
  clear HKS HS0 HS0a HC1 HC2 HC3 p0 p1 p2 p3 p4 hBW hwW hbS hss RX RY RS HP HA HBB
  have hBW:=hBW1
  have hwW:=hwW1
  clear hBW1 hwW1
  go_upto_region 2 with fail
  have HKS:=hide (fun (W:World) (hq:Below V1.heap.size V1 W)=>(⟨(HP1.out.below hq HP1.out.lt).cell 2,(HP1.out.below hq HP1.out.lt).cell 3,(HP1.out.below hq HP1.out.lt).cell 4,(HP1.out.below hq HP1.out.lt).cell 5,(HA1.out.below hq HA1.out.lt).cell 1⟩:W.cell? ⟨w.heap.size,2,none⟩=some (.bool (capZ Y).1)∧W.cell? ⟨w.heap.size,3,none⟩=some (.slice AY nY cY)∧W.cell? ⟨w.heap.size,4,none⟩=some (.bool (capZ S).1)∧W.cell? ⟨w.heap.size,5,none⟩=some (.slice AS nS cS)∧W.cell? ⟨w.heap.size+1,1,none⟩=some (.int .i64 ay)))
  have HS0:Hid (Below V1.heap.size V1 V1.drew):=(Below.refl _ _).drew
  have HS0a:Hid (Below V1.heap.size V1 (V1.alloc (.cells #[.bool false,.slice none 0 0] 25)).drew):=(below_new _ _).drew
  have HC1:=hide (fun (W:World)=>impl_BigIntOf W W.heap.size (Nat.le_refl _) ay (wf_small (by omega) (by omega)))
  have HC2:=hide (fun (W:World) (h:Below V1.heap.size V1 W) (A1:Option Addr) (c1:Nat) (R1:RdI W W.heap.size A1 (capZ ay).2.length (capZ ay).2)=>mulC W ay S A1 c1 R1 AS nS cS (pair_up (RS1.below (h.mono hBW)) (by have:=h.size;omega)) (inR_small (by omega)) (inR_small (by omega)))
  have HC3:=hide (fun (W:World) (h:Below V1.heap.size V1 W) (A1:Option Addr) (c1:Nat) (R1:RdI W W.heap.size A1 (capZ (ay * S)).2.length (capZ (ay * S)).2)=>subC W Y (ay * S) AY nY cY (pair_up (RY1.below (h.mono hBW)) (by have:=h.size;omega)) A1 c1 R1 (inR_small (by omega)) (inR_small (small_mul hS (by omega))))
  obtain ⟨p0,p1,p2,p3,p4⟩:=HKS.out V1 (Below.refl _ _)
  go_cut [8] from 18 to 26 (fun sx wx=>VarOk V1 wx sx (capZ (Y - ay * S)).1 (capZ (Y - ay * S)).2 25 3)
  case first =>
   go_region_held3 (fun w'=>w'.cell? ⟨w.heap.size,2,none⟩=some (.bool (capZ Y).1)∧w'.cell? ⟨w.heap.size,3,none⟩=some (.slice AY nY cY)∧w'.cell? ⟨w.heap.size,4,none⟩=some (.bool (capZ S).1)∧w'.cell? ⟨w.heap.size,5,none⟩=some (.slice AS nS cS)∧w'.cell? ⟨w.heap.size+1,1,none⟩=some (.int .i64 ay))
    (first | (with_reducible exact HKS.out _ (below_set2 HS3.out HS2.out.size _ _)) | (with_reducible exact HKS.out _ (below_set2 HS3.out HS1.out.size _ _)) | (with_reducible exact HKS.out _ (below_set2 HS3.out (Nat.le_refl _) _ _)) | (with_reducible exact HKS.out _ HS3.out) | (with_reducible exact HKS.out _ (below_alloc HS3.out _)) | (with_reducible exact HKS.out _ HS2.out) | (with_reducible exact HKS.out _ (below_alloc HS2.out _)) | (with_reducible exact HKS.out _ HS1.out) | (with_reducible exact HKS.out _ (below_alloc HS1.out _)) | (with_reducible exact HKS.out _ HS0.out) | (with_reducible exact HKS.out _ HS0a.out))
    (first
      | (go_at_call 54;refine (HC1.out _).mono ?_;rintro e u1 ⟨v1,rfl,e1,hb1⟩;obtain ⟨A1,c1,rfl⟩:=e1.form;have hz1:=hb1.size;have HS1:=hide (below_then (by with_reducible first | exact HS0.out | exact HS0a.out) hb1);have r1:=RdI.of_own e1 (capZ_len2 _) (capZ_limbs _))
      | (go_at_call 84;refine (HC2.out _ (by with_reducible first | exact HS1.out | exact below_alloc HS1.out _) _ _ (by first | (with_reducible exact r1) | (with_reducible exact rdI_alloc r1 _))).mono ?_;rintro e u2 ⟨v2,rfl,e2,hb2⟩;obtain ⟨A2,c2,rfl⟩:=e2.form;have hz2:=hb2.size;have HS2:=hide (below_then (by with_reducible first | exact HS1.out | exact below_alloc HS1.out _) hb2);have r2:=RdI.of_own e2 (capZ_len2 _) (capZ_limbs _))
      | (go_at_call 83;refine (HC3.out _ (by with_reducible first | exact HS2.out | exact below_alloc HS2.out _) _ _ (by first | (with_reducible exact r2) | (with_reducible exact rdI_alloc r2 _))).mono ?_;rintro e u3 ⟨v3,rfl,e3,hb3⟩;obtain ⟨A3,c3,rfl⟩:=e3.form;have hz3:=hb3.size;have HS3:=hide (below_then (by with_reducible first | exact HS2.out | exact below_alloc HS2.out _) hb3);first | (have kz:=kz_new hb3;obtain ⟨t0,t1,z0,z1⟩:=kz.facts) | (have kz:=(kz_new hb2).below hb3 (kz_new hb2).lt;obtain ⟨t0,t1,z0,z1⟩:=kz.facts) | (have kz:=((kz_drew hb1).below hb2 (kz_drew hb1).lt).below hb3 ((kz_drew hb1).below hb2 (kz_drew hb1).lt).lt;obtain ⟨t0,t1,z0,z1⟩:=kz.facts) | skip))
   all_goals
    go_wp2_with fail
    go_meet
    case rel =>
     try simp only [drew_size,alloc_size] at hz1 hz2 hz3
     first
      | exact varok_set kz HS3.out e3 (by (try simp only [alloc_size]);omega) (Nat.le_refl _) (by omega) (by (try simp only [alloc_size]);omega)
      | exact varok_last HS3.out e3 (by (try simp only [alloc_size]);omega) (Nat.le_refl _)
  case rest =>
   obtain ⟨g2,A2,c2,lo2,hi2,rfl,ks2,os2,hlo2,hhi2,hgg2,hgl2,hbS⟩:=hcut
   obtain ⟨V2,hV⟩:∃ x,x=wc:=⟨_,rfl⟩
   subst hV
   have hss:=hbS.size
   have hBW2:B≤V2.heap.size:=by omega
   have hwW2:w.heap.size+3≤V2.heap.size:=by omega
   have HP2:=hide (HP1.out.below hbS HP1.out.lt)
   have HA2:=hide (HA1.out.below hbS HA1.out.lt)
   have HBB2:=hide (HBB1.out.below hbS HBB1.out.lt)
   have RX2:=RX1.below (hbS.mono hBW)
   have RY2:=RY1.below (hbS.mono hBW)
   have RS2:=RS1.below (hbS.mono hBW)
   have hT2:=below_then hT1 hbS
   have ks1:=ks1.below hbS ks1.lt
   have os1:=os1.below hbS hhi1
   have hhi1:hi1≤V2.heap.size:=Nat.le_trans hhi1 hss
   clear HKS HS0 HS0a HC1 HC2 HC3 p0 p1 p2 p3 p4 hBW hwW hbS hss RX1 RY1 RS1 HP1 HA1 HBB1
   have hBW:=hBW2
   have hwW:=hwW2
   clear hBW2 hwW2
   have HK1:=hide ks1
   have HK2:=hide ks2
   have HO1:=hide (And.intro os1 hhi1)
   have HO2:=hide (And.intro os2 hhi2)
   have HKS:=hide (fun (W:World) (hq:Below V2.heap.size V2 W)=>(⟨(HBB2.out.below hq HBB2.out.lt).cell 0,(HBB2.out.below hq HBB2.out.lt).cell 1,(HA2.out.below hq HA2.out.lt).cell 0,(HA2.out.below hq HA2.out.lt).cell 1,(HK1.out.below hq HK1.out.lt).cell 0,(HK1.out.below hq HK1.out.lt).cell 1,(HK2.out.below hq HK2.out.lt).cell 0,(HK2.out.below hq HK2.out.lt).cell 1⟩:W.cell? ⟨w.heap.size+2,0,none⟩=some (.int .i64 bx)∧W.cell? ⟨w.heap.size+2,1,none⟩=some (.int .i64 b_y)∧W.cell? ⟨w.heap.size+1,0,none⟩=some (.int .i64 ax)∧W.cell? ⟨w.heap.size+1,1,none⟩=some (.int .i64 ay)∧W.cell? ⟨g1,0,none⟩=some (.bool (capZ (X - ax * S)).1)∧W.cell? ⟨g1,1,none⟩=some (.slice A1 (capZ (X - ax * S)).2.length c1)∧W.cell? ⟨g2,0,none⟩=some (.bool (capZ (Y - ay * S)).1)∧W.cell? ⟨g2,1,none⟩=some (.slice A2 (capZ (Y - ay * S)).2.length c2)))
   have HS0:Hid (Below V2.heap.size V2 V2.drew):=(Below.refl _ _).drew
   have hw1:IntKind.i64.wrap (bx - ax)=bx - ax:=IntWalk.i64_in _ (by omega)
   have hw2:IntKind.i64.wrap (b_y - ay)=b_y - ay:=IntWalk.i64_in _ (by omega)
   have hXs:=small_mul (a:=ax) hS (by omega)
   have hYs:=small_mul (a:=ay) hS (by omega)
   have hXt:=small_mul2 (a:=ax) hS (by omega)
   have hYt:=small_mul2 (a:=ay) hS (by omega)
   have HC1:=hide (fun (W:World)=>impl_BigIntOf W W.heap.size (Nat.le_refl _) (bx - ax) (wf_small (by omega) (by omega)))
   have HC2:=hide (fun (W:World) (A':Option Addr) (c':Nat) (R1:RdI W W.heap.size A' (capZ (bx - ax)).2.length (capZ (bx - ax)).2) (h:Below V2.heap.size V2 W)=>mulC W (bx - ax) (Y - ay * S) A' c' R1 A2 _ c2 (RdI.of_own (HO2.out.1.below h HO2.out.2) (capZ_len2 _) (capZ_limbs _)) (inR_small (by omega)) (inR_small (by omega)))
   have HC3:=hide (fun (W:World)=>impl_BigIntOf W W.heap.size (Nat.le_refl _) (b_y - ay) (wf_small (by omega) (by omega)))
   have HC4:=hide (fun (W:World) (A':Option Addr) (c':Nat) (R1:RdI W W.heap.size A' (capZ (b_y - ay)).2.length (capZ (b_y - ay)).2) (h:Below V2.heap.size V2 W)=>mulC W (b_y - ay) (X - ax * S) A' c' R1 A1 _ c1 (RdI.of_own (HO1.out.1.below h HO1.out.2) (capZ_len2 _) (capZ_limbs _)) (inR_small (by omega)) (inR_small (by omega)))
   have HC5:=hide (fun (W:World) (A' A'':Option Addr) (c' c'':Nat) (R1:RdI W W.heap.size A' (capZ ((bx - ax) * (Y - ay * S))).2.length (capZ ((bx - ax) * (Y - ay * S))).2) (R2:RdI W W.heap.size A'' (capZ ((b_y - ay) * (X - ax * S))).2.length (capZ ((b_y - ay) * (X - ax * S))).2)=>cmpC W _ _ A' c' R1 A'' c'' R2 (inR_small (small_prod (by omega) (by omega))) (inR_small (small_prod (by omega) (by omega))))
   obtain ⟨p0,p1,p2,p3,p4,p5,p6,p7⟩:=HKS.out V2 (Below.refl _ _)
   clear ks1 ks2 os1 os2 hhi1 hhi2 hXs hYs hXt hYt RX2 RY2 RS2
   go_wp2_with fail
   go_region_held3 (fun w'=>w'.cell? ⟨w.heap.size+2,0,none⟩=some (.int .i64 bx)∧w'.cell? ⟨w.heap.size+2,1,none⟩=some (.int .i64 b_y)∧w'.cell? ⟨w.heap.size+1,0,none⟩=some (.int .i64 ax)∧w'.cell? ⟨w.heap.size+1,1,none⟩=some (.int .i64 ay)∧w'.cell? ⟨g1,0,none⟩=some (.bool (capZ (X - ax * S)).1)∧w'.cell? ⟨g1,1,none⟩=some (.slice A1 (capZ (X - ax * S)).2.length c1)∧w'.cell? ⟨g2,0,none⟩=some (.bool (capZ (Y - ay * S)).1)∧w'.cell? ⟨g2,1,none⟩=some (.slice A2 (capZ (Y - ay * S)).2.length c2))
    (first | (with_reducible exact HKS.out _ HS5.out) | (with_reducible exact HKS.out _ HS4.out) | (with_reducible exact HKS.out _ HS3.out) | (with_reducible exact HKS.out _ HS2.out) | (with_reducible exact HKS.out _ HS1.out) | (with_reducible exact HKS.out _ HS0.out))
    (first
      | (go_at_call_has 54 [Value.int IntKind.i64 (bx - ax)];(with_reducible refine Calls.mono (HC1.out _) ?_);rintro e u1 ⟨v1,rfl,e1,hb1⟩;obtain ⟨B1,d1,rfl⟩:=e1.form;have HS1:=hide (below_then HS0.out hb1);have r1:=RdI.of_own e1 (capZ_len2 _) (capZ_limbs _))
      | (go_at_call 84;(with_reducible refine Calls.mono (HC2.out _ _ _ r1 HS1.out) ?_);rintro e u2 ⟨v2,rfl,e2,hb2⟩;obtain ⟨B2,d2,rfl⟩:=e2.form;have HS2:=hide (below_then HS1.out hb2))
      | (go_at_call_has 54 [Value.int IntKind.i64 (b_y - ay)];(with_reducible refine Calls.mono (HC3.out _) ?_);rintro e u3 ⟨v3,rfl,e3,hb3⟩;obtain ⟨B3,d3,rfl⟩:=e3.form;have HS3:=hide (below_then HS2.out hb3);have e2:=e2.below hb3 (Nat.le_refl _);have hy3:=hb3.size;have r3:=RdI.of_own e3 (capZ_len2 _) (capZ_limbs _))
      | (go_at_call 84;(with_reducible refine Calls.mono (HC4.out _ _ _ r3 HS3.out) ?_);rintro e u4 ⟨v4,rfl,e4,hb4⟩;obtain ⟨B4,d4,rfl⟩:=e4.form;have HS4:=hide (below_then HS3.out hb4);have r2:=RdI.of_own (e2.below hb4 hy3) (capZ_len2 _) (capZ_limbs _);have r4:=RdI.of_own e4 (capZ_len2 _) (capZ_limbs _))
      | (go_at_call 41;(with_reducible refine Calls.mono (HC5.out _ _ _ _ _ r2 r4) ?_);rintro e u5 ⟨rfl,hb5⟩;have HS5:=hide (below_then HS4.out hb5)))
   have hTT:=below_then hT2 HS5.out
   go_wp2_with fail
   go_ret
   exact ⟨rfl,hTT⟩
end Go.Proofs.YtafhhemojdblpaaGreat
/-
  A point over a common denominator: scaledOf.
-/
namespace Go.Proofs.YtafhhemojdblpaaGreat
open Go.RowKit
set_option linter.unusedVariables false
theorem Tryz.sizeScaled:(Tryz.prog.info? 76).map (·.size)=some 6:=by kernel_rfl
theorem box_set6 {W:World} {g h:Nat} {E:TypeId} {cs:Array Value} (k:Box W h E cs) (hne:h ≠ g) (x0 x1 x2 x3 x4 x5:Value):Box ((((((W.setCell ⟨g,0,none⟩ x0).setCell ⟨g,1,none⟩ x1).setCell ⟨g,2,none⟩ x2).setCell ⟨g,3,none⟩ x3).setCell ⟨g,4,none⟩ x4).setCell ⟨g,5,none⟩ x5) h E cs :=
 (((((k.setv hne 0 x0).setv hne 1 x1).setv hne 2 x2).setv hne 3 x3).setv hne 4 x4).setv hne 5 x5
theorem own_set6 {W:World} {g lo hi n:Nat} {E:TypeId} {v:Value} {xs:List Value} (o:Own W lo hi E v n xs) (hd:g < lo ∨ hi≤g) (x0 x1 x2 x3 x4 x5:Value):Own ((((((W.setCell ⟨g,0,none⟩ x0).setCell ⟨g,1,none⟩ x1).setCell ⟨g,2,none⟩ x2).setCell ⟨g,3,none⟩ x3).setCell ⟨g,4,none⟩ x4).setCell ⟨g,5,none⟩ x5) lo hi E v n xs :=
 (((((o.setv hd 0 x0).setv hd 1 x1).setv hd 2 x2).setv hd 3 x3).setv hd 4 x4).setv hd 5 x5
theorem below_set6E {w W:World} {g:Nat} (hb:Below w.heap.size w W) (hg:w.heap.size≤g) (x0 x1 x2 x3 x4 x5:Value):Below w.heap.size w ((((((W.setCell ⟨g,0,none⟩ x0).setCell ⟨g,1,none⟩ x1).setCell ⟨g,2,none⟩ x2).setCell ⟨g,3,none⟩ x3).setCell ⟨g,4,none⟩ x4).setCell ⟨g,5,none⟩ x5) :=
 (((((hb.setCell (p:=⟨g,0,none⟩) hg x0).setCell (p:=⟨g,1,none⟩) hg x1).setCell (p:=⟨g,2,none⟩) hg x2).setCell (p:=⟨g,3,none⟩) hg x3).setCell (p:=⟨g,4,none⟩) hg x4).setCell (p:=⟨g,5,none⟩) hg x5
theorem box_new6 {W:World} {g:Nat} {E:TypeId} {a0 a1 a2 a3 a4 a5:Value} (k:Box W g E #[a0,a1,a2,a3,a4,a5]) (x0 x1 x2 x3 x4 x5:Value):Box ((((((W.setCell ⟨g,0,none⟩ x0).setCell ⟨g,1,none⟩ x1).setCell ⟨g,2,none⟩ x2).setCell ⟨g,3,none⟩ x3).setCell ⟨g,4,none⟩ x4).setCell ⟨g,5,none⟩ x5) g E #[x0,x1,x2,x3,x4,x5] :=
 (((((k.set 0 x0).set 1 x1).set 2 x2).set 3 x3).set 4 x4).set 5 x5
theorem size_set6 (W:World) (g:Nat) (x0 x1 x2 x3 x4 x5:Value):((((((W.setCell ⟨g,0,none⟩ x0).setCell ⟨g,1,none⟩ x1).setCell ⟨g,2,none⟩ x2).setCell ⟨g,3,none⟩ x3).setCell ⟨g,4,none⟩ x4).setCell ⟨g,5,none⟩ x5).heap.size=W.heap.size:=by
 simp only [setCell_size]
/-- what scaledOf answers -/
def ScRes (TI:TypeId) (w w':World) (e:Ending) (Z1 Z2:Bool × List Int) (L:List Int):Prop :=
 ∃ v1 v2 v3,e=.returned (.agg #[.bool Z1.1,v1,.bool Z2.1,v2,.bool false,v3])∧Own w' w.heap.size w'.heap.size TI v1 Z1.2.length (iv Z1.2)∧Own w' w.heap.size w'.heap.size TI v2 Z2.2.length (iv Z2.2)∧Own w' w.heap.size w'.heap.size TI v3 L.length (iv L)∧Below w.heap.size w w'
set_option maxRecDepth 100000 in
set_option maxHeartbeats 3200000 in
theorem impl_scaledOf (w:World) (B:Nat) (hB:B≤w.heap.size) (s:Bool) (A:Option Addr) (n c:Nat) (xs:List Int) (Rx:RdI w B A n xs) (D:Option Addr) (m k:Nat) (ds:List Int) (Rd':RdI w B D m ds) (t:Bool) (A':Option Addr) (n' c':Nat) (ys:List Int) (Ry:RdI w B A' n' ys) (D':Option Addr) (m' k':Nat) (es:List Int) (Re':RdI w B D' m' es) :
 Calls Tryz.prog 46 #[.agg #[.bool s,.slice A n c,.slice D m k,.bool t,.slice A' n' c',.slice D' m' k']] w fun e w'=>ScRes 3 w w' e (mulZ s xs false es) (mulZ t ys false ds) (mulL ds es):=by
 obtain ⟨W0,hW0⟩:∃ W0,W0=((w.alloc (.cells #[.bool s,.slice A n c,.slice D m k,.bool t,.slice A' n' c',.slice D' m' k'] 29)).alloc (.cells #[.bool false,.slice none 0 0,.bool false,.slice none 0 0,.bool false,.slice none 0 0] 76)):=⟨_,rfl⟩
 have hT0:Below w.heap.size w W0:=by rw [hW0];exact below_alloc (below_new _ _) _
 have kp:Box W0 (w.heap.size) 29 #[.bool s,.slice A n c,.slice D m k,.bool t,.slice A' n' c',.slice D' m' k']:=by rw [hW0];exact (Box.last _ _ _ rfl).alloc _
 have kr:Box W0 (w.heap.size+1) 76 #[.bool false,.slice none 0 0,.bool false,.slice none 0 0,.bool false,.slice none 0 0]:=by rw [hW0];exact Box.last _ _ _ (alloc_size _ _).symm
 have hB0:B≤W0.heap.size:=Nat.le_trans hB hT0.size
 have hs0:w.heap.size+2≤W0.heap.size:=kr.lt
 have Rx:=Rx.below (hT0.mono hB)
 have Rd':=Rd'.below (hT0.mono hB)
 have Ry:=Ry.below (hT0.mono hB)
 have Re':=Re'.below (hT0.mono hB)
 have HC1:=hide (fun (W:World) (hb:Below W0.heap.size W0 W)=>impl_numeratorOverBoth W B (Nat.le_trans hB0 hb.size) s A n c xs (Rx.below (hb.mono hB0)) D m k ds (Rd'.below (hb.mono hB0)) t A' n' c' ys (Ry.below (hb.mono hB0)) D' m' k' es (Re'.below (hb.mono hB0)))
 have HC2:=hide (fun (W:World) (hb:Below W0.heap.size W0 W)=>impl_numeratorOverBoth W B (Nat.le_trans hB0 hb.size) t A' n' c' ys (Ry.below (hb.mono hB0)) D' m' k' es (Re'.below (hb.mono hB0)) s A n c xs (Rx.below (hb.mono hB0)) D m k ds (Rd'.below (hb.mono hB0)))
 have HC3:=hide (fun (W:World) (hb:Below W0.heap.size W0 W)=>impl_NatMul W B (Nat.le_trans hB0 hb.size) D m k ds (Rd'.below (hb.mono hB0)) D' m' k' es (Re'.below (hb.mono hB0)))
 clear Rx Rd' Ry Re'
 obtain ⟨b1,L1,hZ1⟩:∃ b1 L1,mulZ s xs false es=(b1,L1):=⟨_,_,rfl⟩
 obtain ⟨b2,L2,hZ2⟩:∃ b2 L2,mulZ t ys false ds=(b2,L2):=⟨_,_,rfl⟩
 rw [hZ1] at HC1
 rw [hZ2] at HC2
 rw [hZ1,hZ2]
 generalize mulL ds es=L3 at *
 go_enter Tryz.func46,Tryz.ntmps46
 go_upto_region 1 with fail
 rw [←hW0]
 clear hW0
 have HBp:=hide kp
 have HS0:Hid (Below W0.heap.size W0 W0.drew):=(Below.refl _ _).drew
 have HKS:=hide (fun (W:World) (hq:Below W0.heap.size W0 W)=>(⟨(HBp.out.below hq HBp.out.lt).cell 0,(HBp.out.below hq HBp.out.lt).cell 1,(HBp.out.below hq HBp.out.lt).cell 2,(HBp.out.below hq HBp.out.lt).cell 3,(HBp.out.below hq HBp.out.lt).cell 4,(HBp.out.below hq HBp.out.lt).cell 5⟩:W.cell? ⟨w.heap.size,0,none⟩=some (.bool s)∧W.cell? ⟨w.heap.size,1,none⟩=some (.slice A n c)∧W.cell? ⟨w.heap.size,2,none⟩=some (.slice D m k)∧W.cell? ⟨w.heap.size,3,none⟩=some (.bool t)∧W.cell? ⟨w.heap.size,4,none⟩=some (.slice A' n' c')∧W.cell? ⟨w.heap.size,5,none⟩=some (.slice D' m' k')))
 have HRr:=hide kr
 have HKT:=hide (fun (W:World) (hq:Below W0.heap.size W0 W) (x0 x1 x2 x3 x4 x5:Value)=>(⟨(box_set6 (HBp.out.below hq HBp.out.lt) (show w.heap.size ≠ w.heap.size+1 by omega) x0 x1 x2 x3 x4 x5).cell 0,(box_set6 (HBp.out.below hq HBp.out.lt) (show w.heap.size ≠ w.heap.size+1 by omega) x0 x1 x2 x3 x4 x5).cell 1,(box_set6 (HBp.out.below hq HBp.out.lt) (show w.heap.size ≠ w.heap.size+1 by omega) x0 x1 x2 x3 x4 x5).cell 2,(box_set6 (HBp.out.below hq HBp.out.lt) (show w.heap.size ≠ w.heap.size+1 by omega) x0 x1 x2 x3 x4 x5).cell 3,(box_set6 (HBp.out.below hq HBp.out.lt) (show w.heap.size ≠ w.heap.size+1 by omega) x0 x1 x2 x3 x4 x5).cell 4,(box_set6 (HBp.out.below hq HBp.out.lt) (show w.heap.size ≠ w.heap.size+1 by omega) x0 x1 x2 x3 x4 x5).cell 5⟩:((((((W.setCell ⟨w.heap.size+1,0,none⟩ x0).setCell ⟨w.heap.size+1,1,none⟩ x1).setCell ⟨w.heap.size+1,2,none⟩ x2).setCell ⟨w.heap.size+1,3,none⟩ x3).setCell ⟨w.heap.size+1,4,none⟩ x4).setCell ⟨w.heap.size+1,5,none⟩ x5).cell? ⟨w.heap.size,0,none⟩=some (.bool s)∧((((((W.setCell ⟨w.heap.size+1,0,none⟩ x0).setCell ⟨w.heap.size+1,1,none⟩ x1).setCell ⟨w.heap.size+1,2,none⟩ x2).setCell ⟨w.heap.size+1,3,none⟩ x3).setCell ⟨w.heap.size+1,4,none⟩ x4).setCell ⟨w.heap.size+1,5,none⟩ x5).cell? ⟨w.heap.size,1,none⟩=some (.slice A n c)∧((((((W.setCell ⟨w.heap.size+1,0,none⟩ x0).setCell ⟨w.heap.size+1,1,none⟩ x1).setCell ⟨w.heap.size+1,2,none⟩ x2).setCell ⟨w.heap.size+1,3,none⟩ x3).setCell ⟨w.heap.size+1,4,none⟩ x4).setCell ⟨w.heap.size+1,5,none⟩ x5).cell? ⟨w.heap.size,2,none⟩=some (.slice D m k)∧((((((W.setCell ⟨w.heap.size+1,0,none⟩ x0).setCell ⟨w.heap.size+1,1,none⟩ x1).setCell ⟨w.heap.size+1,2,none⟩ x2).setCell ⟨w.heap.size+1,3,none⟩ x3).setCell ⟨w.heap.size+1,4,none⟩ x4).setCell ⟨w.heap.size+1,5,none⟩ x5).cell? ⟨w.heap.size,3,none⟩=some (.bool t)∧((((((W.setCell ⟨w.heap.size+1,0,none⟩ x0).setCell ⟨w.heap.size+1,1,none⟩ x1).setCell ⟨w.heap.size+1,2,none⟩ x2).setCell ⟨w.heap.size+1,3,none⟩ x3).setCell ⟨w.heap.size+1,4,none⟩ x4).setCell ⟨w.heap.size+1,5,none⟩ x5).cell? ⟨w.heap.size,4,none⟩=some (.slice A' n' c')∧((((((W.setCell ⟨w.heap.size+1,0,none⟩ x0).setCell ⟨w.heap.size+1,1,none⟩ x1).setCell ⟨w.heap.size+1,2,none⟩ x2).setCell ⟨w.heap.size+1,3,none⟩ x3).setCell ⟨w.heap.size+1,4,none⟩ x4).setCell ⟨w.heap.size+1,5,none⟩ x5).cell? ⟨w.heap.size,5,none⟩=some (.slice D' m' k')))
 obtain ⟨p0,p1,p2,p3,p4,p5⟩:=HKS.out W0 (Below.refl _ _)
 clear kp kr hZ1 hZ2
 go_region_held3 (fun w'=>w'.cell? ⟨w.heap.size,0,none⟩=some (.bool s)∧w'.cell? ⟨w.heap.size,1,none⟩=some (.slice A n c)∧w'.cell? ⟨w.heap.size,2,none⟩=some (.slice D m k)∧w'.cell? ⟨w.heap.size,3,none⟩=some (.bool t)∧w'.cell? ⟨w.heap.size,4,none⟩=some (.slice A' n' c')∧w'.cell? ⟨w.heap.size,5,none⟩=some (.slice D' m' k'))
  (first | (with_reducible exact HKT.out _ HS3.out _ _ _ _ _ _) | (with_reducible exact HKS.out _ HS3.out) | (with_reducible exact HKS.out _ HS2.out) | (with_reducible exact HKS.out _ HS1.out) | (with_reducible exact HKS.out _ HS0.out))
  (first
    | (go_at_call 82;(with_reducible refine Calls.mono (HC3.out _ HS2.out) ?_);rintro e u3 ⟨v3,rfl,e3,hb3⟩;obtain ⟨A3,c3,rfl⟩:=e3.form;have HS3:=hide (below_then HS2.out hb3);have hz3:=hb3.size;have e1:=e1.below hb3 hy2;have e2:=e2.below hb3 (Nat.le_refl _);have kR:=HRr.out.below HS3.out HRr.out.lt;obtain ⟨⟨tr0,tr1,tr2,tr3,tr4,tr5⟩,fr0,fr1,fr2,fr3,fr4,fr5⟩:=kR.facts6)
    | (go_at_call 75;(with_reducible refine Calls.mono (HC2.out _ HS1.out) ?_);rintro e u2 ⟨v2,rfl,e2,hb2⟩;obtain ⟨A2,c2,rfl⟩:=e2.form;have HS2:=hide (below_then HS1.out hb2);have hy2:=hb2.size;have e1:=e1.below hb2 (Nat.le_refl _))
    | (go_at_call 75;(with_reducible refine Calls.mono (HC1.out _ HS0.out) ?_);rintro e u1 ⟨v1,rfl,e1,hb1⟩;obtain ⟨A1,c1,rfl⟩:=e1.form;have e1:Own u1 W0.heap.size u1.heap.size 3 (.slice A1 L1.length c1) L1.length (iv L1):=e1;have HS1:=hide (below_then HS0.out hb1);have hy1:W0.heap.size≤u1.heap.size:=hb1.size))
 have hT3:=below_then hT0 HS3.out
 have hd1:W0.heap.size≤u1.heap.size:=hy1
 have HO:=hide (And.intro (box_new6 kR (.bool b1) (.slice A1 L1.length c1) (.bool b2) (.slice A2 L2.length c2) (.bool false) (.slice A3 L3.length c3)) (And.intro (own_set6 (g:=w.heap.size+1) e1 (.inl (by omega)) (.bool b1) (.slice A1 L1.length c1) (.bool b2) (.slice A2 L2.length c2) (.bool false) (.slice A3 L3.length c3)) (And.intro (own_set6 (g:=w.heap.size+1) e2 (.inl (by omega)) (.bool b1) (.slice A1 L1.length c1) (.bool b2) (.slice A2 L2.length c2) (.bool false) (.slice A3 L3.length c3)) (And.intro (own_set6 (g:=w.heap.size+1) e3 (.inl (by omega)) (.bool b1) (.slice A1 L1.length c1) (.bool b2) (.slice A2 L2.length c2) (.bool false) (.slice A3 L3.length c3)) (below_set6E hT3 (Nat.le_succ _) (.bool b1) (.slice A1 L1.length c1) (.bool b2) (.slice A2 L2.length c2) (.bool false) (.slice A3 L3.length c3))))))
 have hsz:=hide (size_set6 u3 (w.heap.size+1) (.bool b1) (.slice A1 L1.length c1) (.bool b2) (.slice A2 L2.length c2) (.bool false) (.slice A3 L3.length c3))
 clear e1 e2 e3 kR hb1 hb2 hb3
 go_wp2_with fail
 refine bodyPost_ret (results_cell_row rfl _ _ (w.heap.size+1) _ #[.bool b1,.slice A1 L1.length c1,.bool b2,.slice A2 L2.length c2,.bool false,.slice A3 L3.length c3] (0,0) _ rfl HO.out.1 Tryz.underlying76 rfl Tryz.sizeScaled) rfl ?_
 exact ⟨_,_,_,rfl,HO.out.2.1.wider (by omega) (by rw [hsz.out];omega),HO.out.2.2.1.wider (by omega) (by rw [hsz.out];omega),HO.out.2.2.2.1.wider (by omega) (by rw [hsz.out];exact Nat.le_refl _),HO.out.2.2.2.2⟩
end Go.Proofs.YtafhhemojdblpaaGreat
