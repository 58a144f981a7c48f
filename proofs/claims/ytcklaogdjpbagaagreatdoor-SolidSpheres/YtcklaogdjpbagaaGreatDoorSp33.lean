/- Parts of the proof. -/
import Derived.Test.YtcklaogdjpbagaaGreatDoorSp19
import Derived.Test.YtcklaogdjpbagaaGreatDoorSp21
import Derived.Test.YtcklaogdjpbagaaGreatDoorSp32
import Derived.Test.YtcklaogdjpbagaaGreatDoorSp22
set_option maxRecDepth 100000
set_option maxHeartbeats 8000000
set_option linter.unusedVariables false
set_option linter.unusedSimpArgs false
namespace Go.Proofs.YtcklaogdjpbagaaGreatDoor
open Go Go.RowKit Go.Proofs.YtcklaogdjpbagaaGreatDoor.M
theorem xS {b:Int} (hb:ax b) (w:World) :
  Calls Tryz.prog 55 #[.int .i64 b] w fun e w'=>e=.returned (.int .i64 (rg b))∧w'=w:=by
 have h:bits .andNot .i64 b (-9223372036854775808)=rg b:=by
  unfold ax at hb
  rw[nw _ hb.1 (by omega)]
  rfl
 go_enter Tryz.func55,Tryz.ntmps55
 go_wp2
 go_ret
 exact⟨rfl,rfl⟩
theorem zG {b:Int} (hb:ax b):fV b=if rg b=0 then 0 else if b<0 then -1 else 1:=by
 unfold fV aZ bk rg
 unfold ax at hb
 by_cases c:b<0
 ·simp only[c,if_true]
  by_cases d:b+9223372036854775808=0
  ·rw[if_pos d]
   have:¬ -(b+9223372036854775808)<0:=by omega
   simp[this]
   omega
  ·rw[if_neg d]
   have:-(b+9223372036854775808)<0:=by omega
   rw[if_pos this]
 ·simp only[c,if_false]
  by_cases d:b=0
  ·subst d;decide
  ·have e:0<b:=by omega
   simp[d,e]
theorem Dg {b:Int} (hb:ax b) (w:World) :
  Calls Tryz.prog 58 #[.int .i64 b] w fun e w'=>e=.returned (.int .i64 (fV b))∧w'=w:=by
 rw[zG hb]
 have CA:Hid (∀ W,Calls Tryz.prog 55 #[.int .i64 b] W fun e w'=>e=.returned (.int .i64 (rg b))∧w'=W):=fun W=>xS hb W
 clear hb
 generalize rg b=r at *
 by_cases h0:r=0
 ·subst h0
  go_enter Tryz.func58,Tryz.ntmps58
  go_wp2_with fail
  refine(CA.out _).mono ?_
  rintro _ wz ⟨rfl,hwz⟩
  replace hwz:=hwz.symm
  subst hwz
  go_wp2
  go_ret
  exact⟨by simp,rfl⟩
 ·have h1:(r == 0)=false:=by simpa using h0
  by_cases h2:b<0
  ·have h3:decide (b<0)=true:=decide_eq_true h2
   go_enter Tryz.func58,Tryz.ntmps58
   go_wp2_with fail
   refine(CA.out _).mono ?_
   rintro _ wz ⟨rfl,hwz⟩
   replace hwz:=hwz.symm
   subst hwz
   go_wp2
   go_ret
   exact⟨by simp[h0,h2],rfl⟩
  ·have h3:decide (b<0)=false:=decide_eq_false h2
   go_enter Tryz.func58,Tryz.ntmps58
   go_wp2_with fail
   refine(CA.out _).mono ?_
   rintro _ wz ⟨rfl,hwz⟩
   replace hwz:=hwz.symm
   subst hwz
   go_wp2
   go_ret
   exact⟨by simp[h0,h2],rfl⟩
theorem BB {a b:Int} (ha:ax a) (hb:ax b) (w:World) :
  Calls Tryz.prog 57 #[.int .i64 a,.int .i64 b] w fun e w'=>e=.returned (.bool (decide (bk a<bk b)))∧w'=w:=by
 have C1:Hid (∀ W,Calls Tryz.prog 86 #[.int .i64 a] W fun e w'=>e=.returned (.int .i64 (bk a))∧w'=W):=fun W=>xw ha W
 have C2:Hid (∀ W,Calls Tryz.prog 86 #[.int .i64 b] W fun e w'=>e=.returned (.int .i64 (bk b))∧w'=W):=fun W=>xw hb W
 clear ha hb
 generalize bk a=p at *
 generalize bk b=q at *
 go_enter Tryz.func57,Tryz.ntmps57
 go_wp2_with fail
 refine(C1.out _).mono ?_
 rintro _ wz ⟨rfl,hwz⟩
 replace hwz:=hwz.symm
 subst hwz
 go_wp2_with fail
 refine(C2.out _).mono ?_
 rintro _ wz ⟨rfl,hwz⟩
 replace hwz:=hwz.symm
 subst hwz
 go_wp2
 go_ret
 exact⟨rfl,rfl⟩
theorem ky {b:Int} (hb:ax b) (W:World):Calls Tryz.prog 55 #[.int .i64 b] W fun e w'=>e=.returned (.int .i64 (rg b))∧Below W.heap.size W w':=(xS hb W).mono (by rintro _ _ ⟨rfl,rfl⟩;exact⟨rfl,ak _⟩)
theorem Dh {b:Int} (hb:ax b) (W:World):Calls Tryz.prog 58 #[.int .i64 b] W fun e w'=>e=.returned (.int .i64 (fV b))∧Below W.heap.size W w':=(Dg hb W).mono (by rintro _ _ ⟨rfl,rfl⟩;exact⟨rfl,ak _⟩)
theorem BC {a b:Int} (ha:ax a) (hb:ax b) (W:World):Calls Tryz.prog 57 #[.int .i64 a,.int .i64 b] W fun e w'=>e=.returned (.bool (decide (bk a<bk b)))∧Below W.heap.size W w':=(BB ha hb W).mono (by rintro _ _ ⟨rfl,rfl⟩;exact⟨rfl,ak _⟩)
theorem xT (W:World):Calls Tryz.prog 29 #[.int .i64 4503599627370503,.int .i64 (-101)] W fun e w'=>e=.returned (.int .i64 sB)∧Below W.heap.size W w':=by
 go_enter Tryz.func29,Tryz.ntmps29
 go_wp2
 go_ret
 exact⟨rfl,ak _⟩
theorem oY {u:Nat->Nat->Int} (p q:Nat) (hr:∀ i k,ax (u i k)) (w:World) :
  Calls Tryz.prog 52 #[.agg #[.int .i64 (u p 0),.int .i64 (u p 1),.int .i64 (u p 2)],.agg #[.int .i64 (u q 0),.int .i64 (u q 1),.int .i64 (u q 2)]] w fun e w'=>e=.returned (.tuple #[.int .i64 (mn u p q),.int .i64 (sz u p q)])∧Below w.heap.size w w':=by
 have P1:Hid (∀ W,Calls Tryz.prog 54 #[.int .i64 (u p 0),.int .i64 (u q 1)] W fun e w'=>e=.returned (.int .i64 (pL u p q))∧Below W.heap.size W w'):=fun W=>cd _ _ (hr _ _) (hr _ _) W
 have P2:Hid (∀ W,Calls Tryz.prog 54 #[.int .i64 (u q 0),.int .i64 (u p 1)] W fun e w'=>e=.returned (.int .i64 (pL u q p))∧Below W.heap.size W w'):=fun W=>cd _ _ (hr _ _) (hr _ _) W
 have r1:ax (pL u p q):=aS (hr _ _) (hr _ _)
 have r2:ax (pL u q p):=aS (hr _ _) (hr _ _)
 have D:Hid (∀ W,Calls Tryz.prog 56 #[.int .i64 (pL u p q),.int .i64 (pL u q p)] W fun e w'=>e=.returned (.int .i64 (mn u p q))∧Below W.heap.size W w'):=fun W=>fY _ _ r1 r2 W
 have A1:Hid (∀ W,Calls Tryz.prog 55 #[.int .i64 (pL u p q)] W fun e w'=>e=.returned (.int .i64 (rg (pL u p q)))∧Below W.heap.size W w'):=fun W=>ky r1 W
 have A2:Hid (∀ W,Calls Tryz.prog 55 #[.int .i64 (pL u q p)] W fun e w'=>e=.returned (.int .i64 (rg (pL u q p)))∧Below W.heap.size W w'):=fun W=>ky r2 W
 have S:Hid (∀ W,Calls Tryz.prog 53 #[.int .i64 (rg (pL u p q)),.int .i64 (rg (pL u q p))] W fun e w'=>e=.returned (.int .i64 (sz u p q))∧Below W.heap.size W w'):=fun W=>eO _ _ (cN r1).1 (cN r2).1 W
 clear r1 r2 hr
 generalize mn u p q=dd at *
 generalize sz u p q=ss at *
 generalize rg (pL u p q)=g1 at *
 generalize rg (pL u q p)=g2 at *
 generalize pL u p q=l1 at *
 generalize pL u q p=l2 at *
 obtain⟨hb0,a_k,b_k,hsz0⟩:=Ag w (.cells #[.int .i64 (u p 0),.int .i64 (u p 1),.int .i64 (u p 2)] 70) (.cells #[.int .i64 (u q 0),.int .i64 (u q 1),.int .i64 (u q 2)] 70)
 clear hsz0
 go_enter Tryz.func52,Tryz.ntmps52
 have f_a0:=af a_k 0 rfl
 have f_b1:=af b_k 1 rfl
 go_wp2_with fail
 clear f_a0 f_b1
 generalize ((w.alloc (.cells #[.int .i64 (u p 0),.int .i64 (u p 1),.int .i64 (u p 2)] 70)).alloc (.cells #[.int .i64 (u q 0),.int .i64 (u q 1),.int .i64 (u q 2)] 70))=x0 at hb0 a_k b_k ⊢
 refine(P1.out _).mono ?_
 rintro _ y1 ⟨rfl,hw1⟩
 replace a_k:=am hw1 a_k
 replace b_k:=am hw1 b_k
 replace hb0:=ac hb0 hw1
 have f_b0:=af b_k 0 rfl
 have f_a1:=af a_k 1 rfl
 go_wp2_with fail
 clear f_b0 f_a1
 refine(P2.out _).mono ?_
 rintro _ y2 ⟨rfl,hw2⟩
 replace a_k:=am hw2 a_k
 replace b_k:=am hw2 b_k
 replace hb0:=ac hb0 hw2
 go_wp2_with fail
 refine(D.out _).mono ?_
 rintro _ y3 ⟨rfl,hw3⟩
 replace a_k:=am hw3 a_k
 replace b_k:=am hw3 b_k
 replace hb0:=ac hb0 hw3
 go_wp2_with fail
 refine(A1.out _).mono ?_
 rintro _ y4 ⟨rfl,hw4⟩
 replace a_k:=am hw4 a_k
 replace b_k:=am hw4 b_k
 replace hb0:=ac hb0 hw4
 go_wp2_with fail
 refine(A2.out _).mono ?_
 rintro _ y5 ⟨rfl,hw5⟩
 replace a_k:=am hw5 a_k
 replace b_k:=am hw5 b_k
 replace hb0:=ac hb0 hw5
 go_wp2_with fail
 refine(S.out _).mono ?_
 rintro _ y6 ⟨rfl,hw6⟩
 replace a_k:=am hw6 a_k
 replace b_k:=am hw6 b_k
 replace hb0:=ac hb0 hw6
 go_wp2
 exact bodyPost_ret (v:=.tuple #[.int .i64 dd,.int .i64 ss]) (by simp[results,Tryz.results52,go_sem]) rfl ⟨rfl,hb0⟩
theorem mH {u:Nat->Nat->Int} (p:Nat) (hr:∀ i k,ax (u i k)) (w:World) :
    Calls Tryz.prog 65 #[.agg #[.int .i64 (u p 0),.int .i64 (u p 1),.int .i64 (u p 2)]] w fun e w'=>e=.returned (.int .i64 (rF u p))∧Below w.heap.size w w':=by
  have P0:Hid (∀ W,Calls Tryz.prog 54 #[.int .i64 (u p 0),.int .i64 (u p 0)] W fun e w'=>e=.returned (.int .i64 (ay (u p 0) (u p 0)))∧Below W.heap.size W w'):=fun W=>cd _ _ (hr _ _) (hr _ _) W
  have r0:ax (ay (u p 0) (u p 0)):=aS (hr _ _) (hr _ _)
  have P1:Hid (∀ W,Calls Tryz.prog 54 #[.int .i64 (u p 1),.int .i64 (u p 1)] W fun e w'=>e=.returned (.int .i64 (ay (u p 1) (u p 1)))∧Below W.heap.size W w'):=fun W=>cd _ _ (hr _ _) (hr _ _) W
  have r1:ax (ay (u p 1) (u p 1)):=aS (hr _ _) (hr _ _)
  have P2:Hid (∀ W,Calls Tryz.prog 54 #[.int .i64 (u p 2),.int .i64 (u p 2)] W fun e w'=>e=.returned (.int .i64 (ay (u p 2) (u p 2)))∧Below W.heap.size W w'):=fun W=>cd _ _ (hr _ _) (hr _ _) W
  have r2:ax (ay (u p 2) (u p 2)):=aS (hr _ _) (hr _ _)
  have S1:Hid (∀ W,Calls Tryz.prog 53 #[.int .i64 (ay (u p 0) (u p 0)),.int .i64 (ay (u p 1) (u p 1))] W fun e w'=>e=.returned (.int .i64 (aE (ay (u p 0) (u p 0)) (ay (u p 1) (u p 1))))∧Below W.heap.size W w'):=fun W=>eO _ _ r0 r1 W
  have S2:Hid (∀ W,Calls Tryz.prog 53 #[.int .i64 (aE (ay (u p 0) (u p 0)) (ay (u p 1) (u p 1))),.int .i64 (ay (u p 2) (u p 2))] W fun e w'=>e=.returned (.int .i64 (rF u p))∧Below W.heap.size W w'):=fun W=>eO _ _ (bs r0 r1) r2 W
  clear r0 r1 r2 hr
  generalize rF u p=dd at *
  generalize aE (ay (u p 0) (u p 0)) (ay (u p 1) (u p 1))=s1 at *
  generalize ay (u p 0) (u p 0)=q0 at *
  generalize ay (u p 1) (u p 1)=q1 at *
  generalize ay (u p 2) (u p 2)=q2 at *
  have hb0:=ah w (.cells #[.int .i64 (u p 0),.int .i64 (u p 1),.int .i64 (u p 2)] 70)
  have a_k:=aC w (.cells #[.int .i64 (u p 0),.int .i64 (u p 1),.int .i64 (u p 2)] 70)
  go_enter Tryz.func65,Tryz.ntmps65
  go_wp2_with fail
  generalize (w.alloc (.cells #[.int .i64 (u p 0),.int .i64 (u p 1),.int .i64 (u p 2)] 70))=x0 at hb0 a_k ⊢
  have KK1:∀ W,Below x0.heap.size x0 W->W.cell? ⟨w.heap.size,0,none⟩=some (.int .i64 (u p 0))∧W.cell? ⟨w.heap.size,1,none⟩=some (.int .i64 (u p 1)):=fun W hb=>⟨aj (af a_k 0 rfl) hb,aj (af a_k 1 rfl) hb⟩
  have hC1_0:=(ak x0).drew
  have hs1_0:=(ak x0).drew
  go_region_held3 (fun W=>W.cell? ⟨w.heap.size,0,none⟩=some (.int .i64 (u p 0))∧W.cell? ⟨w.heap.size,1,none⟩=some (.int .i64 (u p 1)))
    (with_reducible first|assumption|exact KK1 _ hC1_0|exact KK1 _ hC1_1|exact KK1 _ hC1_2|exact KK1 _ hC1_3|fail)
    (first
      | (go_at_call 53;have _t:=hs1_2;refine(S1.out _).mono ?_;rintro _ y1_3 ⟨rfl,hs1_3⟩;have hC1_3:=ac hC1_2 hs1_3)
      | (go_at_call 54;have _t:=hs1_1;refine(P1.out _).mono ?_;rintro _ y1_2 ⟨rfl,hs1_2⟩;have hC1_2:=ac hC1_1 hs1_2)
      | (go_at_call 54; refine (P0.out _).mono ?_; rintro _ y1_1 ⟨rfl,hs1_1⟩; have hC1_1:=ac hC1_0 hs1_1))
  replace a_k:=am hC1_3 a_k
  replace hb0:=ac hb0 hC1_3
  have f_a2:=af a_k 2 rfl
  go_wp2_with fail
  clear f_a2
  refine(P2.out _).mono ?_
  rintro _ y2 ⟨rfl,hw2⟩
  replace a_k:=am hw2 a_k
  replace hb0:=ac hb0 hw2
  go_wp2_with fail
  refine(S2.out _).mono ?_
  rintro _ y3 ⟨rfl,hw3⟩
  replace a_k:=am hw3 a_k
  replace hb0:=ac hb0 hw3
  go_wp2
  go_ret
  exact⟨rfl,hb0⟩
theorem jU {u:Nat->Nat->Int} (p q r:Nat) (hr:∀ i k,ax (u i k)) (w:World) :
    Calls Tryz.prog 64 #[.agg #[.int .i64 (u p 0),.int .i64 (u p 1),.int .i64 (u p 2)],.agg #[.int .i64 (u q 0),.int .i64 (u q 1),.int .i64 (u q 2)],.agg #[.int .i64 (u r 0),.int .i64 (u r 1),.int .i64 (u r 2)]] w fun e w'=>e=.returned (.tuple #[.int .i64 (dt u p q r),.int .i64 (rX u p q r)])∧Below w.heap.size w w':=by
  have C0:Hid (∀ W,Calls Tryz.prog 52 #[.agg #[.int .i64 (u p 0),.int .i64 (u p 1),.int .i64 (u p 2)],.agg #[.int .i64 (u q 0),.int .i64 (u q 1),.int .i64 (u q 2)]] W fun e w'=>e=.returned (.tuple #[.int .i64 (mn u p q),.int .i64 (sz u p q)])∧Below W.heap.size W w'):=fun W=>oY p q hr W
  have rm0:ax (mn u p q):=bs (aS (hr _ _) (hr _ _)) (eu (aS (hr _ _) (hr _ _)))
  have rz0:ax (sz u p q):=bs (cN (aS (hr _ _) (hr _ _))).1 (cN (aS (hr _ _) (hr _ _))).1
  have C1:Hid (∀ W,Calls Tryz.prog 52 #[.agg #[.int .i64 (u q 0),.int .i64 (u q 1),.int .i64 (u q 2)],.agg #[.int .i64 (u r 0),.int .i64 (u r 1),.int .i64 (u r 2)]] W fun e w'=>e=.returned (.tuple #[.int .i64 (mn u q r),.int .i64 (sz u q r)])∧Below W.heap.size W w'):=fun W=>oY q r hr W
  have rm1:ax (mn u q r):=bs (aS (hr _ _) (hr _ _)) (eu (aS (hr _ _) (hr _ _)))
  have rz1:ax (sz u q r):=bs (cN (aS (hr _ _) (hr _ _))).1 (cN (aS (hr _ _) (hr _ _))).1
  have C2:Hid (∀ W,Calls Tryz.prog 52 #[.agg #[.int .i64 (u p 0),.int .i64 (u p 1),.int .i64 (u p 2)],.agg #[.int .i64 (u r 0),.int .i64 (u r 1),.int .i64 (u r 2)]] W fun e w'=>e=.returned (.tuple #[.int .i64 (mn u p r),.int .i64 (sz u p r)])∧Below W.heap.size W w'):=fun W=>oY p r hr W
  have rm2:ax (mn u p r):=bs (aS (hr _ _) (hr _ _)) (eu (aS (hr _ _) (hr _ _)))
  have rz2:ax (sz u p r):=bs (cN (aS (hr _ _) (hr _ _))).1 (cN (aS (hr _ _) (hr _ _))).1
  have P0:Hid (∀ W,Calls Tryz.prog 54 #[.int .i64 (u p 2),.int .i64 (mn u q r)] W fun e w'=>e=.returned (.int .i64 (ay (u p 2) (mn u q r)))∧Below W.heap.size W w'):=fun W=>cd _ _ (hr _ _) rm1 W
  have rp0:ax (ay (u p 2) (mn u q r)):=aS (hr _ _) rm1
  have P1:Hid (∀ W,Calls Tryz.prog 54 #[.int .i64 (u q 2),.int .i64 (mn u p r)] W fun e w'=>e=.returned (.int .i64 (ay (u q 2) (mn u p r)))∧Below W.heap.size W w'):=fun W=>cd _ _ (hr _ _) rm2 W
  have rp1:ax (ay (u q 2) (mn u p r)):=aS (hr _ _) rm2
  have P2:Hid (∀ W,Calls Tryz.prog 54 #[.int .i64 (u r 2),.int .i64 (mn u p q)] W fun e w'=>e=.returned (.int .i64 (ay (u r 2) (mn u p q)))∧Below W.heap.size W w'):=fun W=>cd _ _ (hr _ _) rm0 W
  have rp2:ax (ay (u r 2) (mn u p q)):=aS (hr _ _) rm0
  have S1:Hid (∀ W,Calls Tryz.prog 56 #[.int .i64 (ay (u p 2) (mn u q r)),.int .i64 (ay (u q 2) (mn u p r))] W fun e w'=>e=.returned (.int .i64 (aE (ay (u p 2) (mn u q r)) (M.neg (ay (u q 2) (mn u p r)))))∧Below W.heap.size W w'):=fun W=>fY _ _ rp0 rp1 W
  have rs1:ax (aE (ay (u p 2) (mn u q r)) (M.neg (ay (u q 2) (mn u p r)))):=bs rp0 (eu rp1)
  have S2:Hid (∀ W,Calls Tryz.prog 53 #[.int .i64 (aE (ay (u p 2) (mn u q r)) (M.neg (ay (u q 2) (mn u p r)))),.int .i64 (ay (u r 2) (mn u p q))] W fun e w'=>e=.returned (.int .i64 (dt u p q r))∧Below W.heap.size W w'):=fun W=>eO _ _ rs1 rp2 W
  have A0:Hid (∀ W,Calls Tryz.prog 55 #[.int .i64 (u r 2)] W fun e w'=>e=.returned (.int .i64 (rg (u r 2)))∧Below W.heap.size W w'):=fun W=>ky (hr _ _) W
  have Q0:Hid (∀ W,Calls Tryz.prog 54 #[.int .i64 (sz u p q),.int .i64 (rg (u r 2))] W fun e w'=>e=.returned (.int .i64 (ay (sz u p q) (rg (u r 2))))∧Below W.heap.size W w'):=fun W=>cd _ _ rz0 (cN (hr _ _)).1 W
  have rq0:ax (ay (sz u p q) (rg (u r 2))):=aS rz0 (cN (hr _ _)).1
  have A1:Hid (∀ W,Calls Tryz.prog 55 #[.int .i64 (u p 2)] W fun e w'=>e=.returned (.int .i64 (rg (u p 2)))∧Below W.heap.size W w'):=fun W=>ky (hr _ _) W
  have Q1:Hid (∀ W,Calls Tryz.prog 54 #[.int .i64 (sz u q r),.int .i64 (rg (u p 2))] W fun e w'=>e=.returned (.int .i64 (ay (sz u q r) (rg (u p 2))))∧Below W.heap.size W w'):=fun W=>cd _ _ rz1 (cN (hr _ _)).1 W
  have rq1:ax (ay (sz u q r) (rg (u p 2))):=aS rz1 (cN (hr _ _)).1
  have A2:Hid (∀ W,Calls Tryz.prog 55 #[.int .i64 (u q 2)] W fun e w'=>e=.returned (.int .i64 (rg (u q 2)))∧Below W.heap.size W w'):=fun W=>ky (hr _ _) W
  have Q2:Hid (∀ W,Calls Tryz.prog 54 #[.int .i64 (sz u p r),.int .i64 (rg (u q 2))] W fun e w'=>e=.returned (.int .i64 (ay (sz u p r) (rg (u q 2))))∧Below W.heap.size W w'):=fun W=>cd _ _ rz2 (cN (hr _ _)).1 W
  have rq2:ax (ay (sz u p r) (rg (u q 2))):=aS rz2 (cN (hr _ _)).1
  have Y1:Hid (∀ W,Calls Tryz.prog 53 #[.int .i64 (ay (sz u p q) (rg (u r 2))),.int .i64 (ay (sz u q r) (rg (u p 2)))] W fun e w'=>e=.returned (.int .i64 (aE (ay (sz u p q) (rg (u r 2))) (ay (sz u q r) (rg (u p 2)))))∧Below W.heap.size W w'):=fun W=>eO _ _ rq0 rq1 W
  have Y2:Hid (∀ W,Calls Tryz.prog 53 #[.int .i64 (aE (ay (sz u p q) (rg (u r 2))) (ay (sz u q r) (rg (u p 2)))),.int .i64 (ay (sz u p r) (rg (u q 2)))] W fun e w'=>e=.returned (.int .i64 (rX u p q r))∧Below W.heap.size W w'):=fun W=>eO _ _ (bs rq0 rq1) rq2 W
  clear hr rs1 rm0 rz0 rp0 rq0 rm1 rz1 rp1 rq1 rm2 rz2 rp2 rq2
  generalize dt u p q r=dd at *
  generalize rX u p q r=ss at *
  generalize aE (ay (u p 2) (mn u q r)) (M.neg (ay (u q 2) (mn u p r)))=t1 at *
  generalize aE (ay (sz u p q) (rg (u r 2))) (ay (sz u q r) (rg (u p 2)))=z1 at *
  generalize ay (u p 2) (mn u q r)=e0 at *
  generalize ay (u q 2) (mn u p r)=e1 at *
  generalize ay (u r 2) (mn u p q)=e2 at *
  generalize ay (sz u p q) (rg (u r 2))=h0 at *
  generalize ay (sz u q r) (rg (u p 2))=h1 at *
  generalize ay (sz u p r) (rg (u q 2))=h2 at *
  generalize mn u p q=m0 at *
  generalize mn u q r=m1 at *
  generalize mn u p r=m2 at *
  generalize sz u p q=n0 at *
  generalize sz u q r=n1 at *
  generalize sz u p r=n2 at *
  generalize rg (u r 2)=g0 at *
  generalize rg (u p 2)=g1 at *
  generalize rg (u q 2)=g2 at *
  obtain⟨hb0,a_k,b_k,c_k,hsz0⟩:=qG w (.cells #[.int .i64 (u p 0),.int .i64 (u p 1),.int .i64 (u p 2)] 70) (.cells #[.int .i64 (u q 0),.int .i64 (u q 1),.int .i64 (u q 2)] 70) (.cells #[.int .i64 (u r 0),.int .i64 (u r 1),.int .i64 (u r 2)] 70)
  clear hsz0
  go_enter Tryz.func64,Tryz.ntmps64
  have f_a0:=af a_k 0 rfl
  have f_a1:=af a_k 1 rfl
  have f_a2:=af a_k 2 rfl
  have f_b0:=af b_k 0 rfl
  have f_b1:=af b_k 1 rfl
  have f_b2:=af b_k 2 rfl
  go_wp2_with fail
  clear f_a0 f_a1 f_a2 f_b0 f_b1 f_b2
  generalize (((w.alloc (.cells #[.int .i64 (u p 0),.int .i64 (u p 1),.int .i64 (u p 2)] 70)).alloc (.cells #[.int .i64 (u q 0),.int .i64 (u q 1),.int .i64 (u q 2)] 70)).alloc (.cells #[.int .i64 (u r 0),.int .i64 (u r 1),.int .i64 (u r 2)] 70))=x0 at hb0 a_k b_k c_k ⊢
  refine(C0.out _).mono ?_
  rintro _ y1 ⟨rfl,hw1⟩
  replace a_k:=am hw1 a_k
  replace b_k:=am hw1 b_k
  replace c_k:=am hw1 c_k
  replace hb0:=ac hb0 hw1
  have f_b0:=af b_k 0 rfl
  have f_b1:=af b_k 1 rfl
  have f_b2:=af b_k 2 rfl
  have f_c0:=af c_k 0 rfl
  have f_c1:=af c_k 1 rfl
  have f_c2:=af c_k 2 rfl
  go_wp2_with fail
  clear f_b0 f_b1 f_b2 f_c0 f_c1 f_c2
  refine(C1.out _).mono ?_
  rintro _ y2 ⟨rfl,hw2⟩
  replace a_k:=am hw2 a_k
  replace b_k:=am hw2 b_k
  replace c_k:=am hw2 c_k
  replace hb0:=ac hb0 hw2
  have f_a0:=af a_k 0 rfl
  have f_a1:=af a_k 1 rfl
  have f_a2:=af a_k 2 rfl
  have f_c0:=af c_k 0 rfl
  have f_c1:=af c_k 1 rfl
  have f_c2:=af c_k 2 rfl
  go_wp2_with fail
  clear f_a0 f_a1 f_a2 f_c0 f_c1 f_c2
  refine(C2.out _).mono ?_
  rintro _ y3 ⟨rfl,hw3⟩
  replace a_k:=am hw3 a_k
  replace b_k:=am hw3 b_k
  replace c_k:=am hw3 c_k
  replace hb0:=ac hb0 hw3
  go_wp2_with fail
  have KK4:∀ W,Below y3.heap.size y3 W->W.cell? ⟨w.heap.size,2,none⟩=some (.int .i64 (u p 2))∧W.cell? ⟨w.heap.size+1,2,none⟩=some (.int .i64 (u q 2))∧W.cell? ⟨w.heap.size+2,2,none⟩=some (.int .i64 (u r 2)):=fun W hb=>⟨aj (af a_k 2 rfl) hb,aj (af b_k 2 rfl) hb,aj (af c_k 2 rfl) hb⟩
  have hC4_0:=(ak y3).drew
  have hs4_0:=(ak y3).drew
  go_region_held3 (fun W=>W.cell? ⟨w.heap.size,2,none⟩=some (.int .i64 (u p 2))∧W.cell? ⟨w.heap.size+1,2,none⟩=some (.int .i64 (u q 2))∧W.cell? ⟨w.heap.size+2,2,none⟩=some (.int .i64 (u r 2)))
    (with_reducible first|assumption|exact KK4 _ hC4_0|exact KK4 _ hC4_1|exact KK4 _ hC4_2|exact KK4 _ hC4_3|exact KK4 _ hC4_4|exact KK4 _ hC4_5|fail)
    (first
      | (go_at_call 53;have _t:=hs4_4;refine(S2.out _).mono ?_;rintro _ y4_5 ⟨rfl,hs4_5⟩;have hC4_5:=ac hC4_4 hs4_5)
      | (go_at_call 54;have _t:=hs4_3;refine(P2.out _).mono ?_;rintro _ y4_4 ⟨rfl,hs4_4⟩;have hC4_4:=ac hC4_3 hs4_4)
      | (go_at_call 56;have _t:=hs4_2;refine(S1.out _).mono ?_;rintro _ y4_3 ⟨rfl,hs4_3⟩;have hC4_3:=ac hC4_2 hs4_3)
      | (go_at_call 54;have _t:=hs4_1;refine(P1.out _).mono ?_;rintro _ y4_2 ⟨rfl,hs4_2⟩;have hC4_2:=ac hC4_1 hs4_2)
      | (go_at_call 54; refine (P0.out _).mono ?_; rintro _ y4_1 ⟨rfl,hs4_1⟩; have hC4_1:=ac hC4_0 hs4_1))
  replace a_k:=am hC4_5 a_k
  replace b_k:=am hC4_5 b_k
  replace c_k:=am hC4_5 c_k
  replace hb0:=ac hb0 hC4_5
  have f_c2:=af c_k 2 rfl
  go_wp2_with fail
  clear f_c2
  refine(A0.out _).mono ?_
  rintro _ y5 ⟨rfl,hw5⟩
  replace a_k:=am hw5 a_k
  replace b_k:=am hw5 b_k
  replace c_k:=am hw5 c_k
  replace hb0:=ac hb0 hw5
  go_wp2_with fail
  refine(Q0.out _).mono ?_
  rintro _ y6 ⟨rfl,hw6⟩
  replace a_k:=am hw6 a_k
  replace b_k:=am hw6 b_k
  replace c_k:=am hw6 c_k
  replace hb0:=ac hb0 hw6
  have f_a2:=af a_k 2 rfl
  go_wp2_with fail
  clear f_a2
  refine(A1.out _).mono ?_
  rintro _ y7 ⟨rfl,hw7⟩
  replace a_k:=am hw7 a_k
  replace b_k:=am hw7 b_k
  replace c_k:=am hw7 c_k
  replace hb0:=ac hb0 hw7
  go_wp2_with fail
  refine(Q1.out _).mono ?_
  rintro _ y8 ⟨rfl,hw8⟩
  replace a_k:=am hw8 a_k
  replace b_k:=am hw8 b_k
  replace c_k:=am hw8 c_k
  replace hb0:=ac hb0 hw8
  have f_b2:=af b_k 2 rfl
  go_wp2_with fail
  clear f_b2
  refine(A2.out _).mono ?_
  rintro _ y9 ⟨rfl,hw9⟩
  replace a_k:=am hw9 a_k
  replace b_k:=am hw9 b_k
  replace c_k:=am hw9 c_k
  replace hb0:=ac hb0 hw9
  go_wp2_with fail
  refine(Q2.out _).mono ?_
  rintro _ y10 ⟨rfl,hw10⟩
  replace a_k:=am hw10 a_k
  replace b_k:=am hw10 b_k
  replace c_k:=am hw10 c_k
  replace hb0:=ac hb0 hw10
  go_wp2_with fail
  refine(Y1.out _).mono ?_
  rintro _ y11 ⟨rfl,hw11⟩
  replace a_k:=am hw11 a_k
  replace b_k:=am hw11 b_k
  replace c_k:=am hw11 c_k
  replace hb0:=ac hb0 hw11
  go_wp2_with fail
  refine(Y2.out _).mono ?_
  rintro _ y12 ⟨rfl,hw12⟩
  replace a_k:=am hw12 a_k
  replace b_k:=am hw12 b_k
  replace c_k:=am hw12 c_k
  replace hb0:=ac hb0 hw12
  go_wp2
  exact bodyPost_ret (v:=.tuple #[.int .i64 dd,.int .i64 ss]) (by simp[results,Tryz.results64,go_sem]) rfl ⟨rfl,hb0⟩
theorem vF {u:Nat->Nat->Int} (hr:∀ i k,ax (u i k)) (w:World) :
    Calls Tryz.prog 35 #[.agg #[.int .i64 (u 0 0),.int .i64 (u 0 1),.int .i64 (u 0 2)],.agg #[.int .i64 (u 1 0),.int .i64 (u 1 1),.int .i64 (u 1 2)],.agg #[.int .i64 (u 2 0),.int .i64 (u 2 1),.int .i64 (u 2 2)],.agg #[.int .i64 (u 3 0),.int .i64 (u 3 1),.int .i64 (u 3 2)]] w fun e w'=>e=.returned (.tuple #[.int .i64 (oq u),.int .i64 (ot u)])∧Below w.heap.size w w':=by
  have C0:Hid (∀ W,Calls Tryz.prog 64 #[.agg #[.int .i64 (u 0 0),.int .i64 (u 0 1),.int .i64 (u 0 2)],.agg #[.int .i64 (u 1 0),.int .i64 (u 1 1),.int .i64 (u 1 2)],.agg #[.int .i64 (u 2 0),.int .i64 (u 2 1),.int .i64 (u 2 2)]] W fun e w'=>e=.returned (.tuple #[.int .i64 (dt u 0 1 2),.int .i64 (rX u 0 1 2)])∧Below W.heap.size W w'):=fun W=>jU 0 1 2 hr W
  have C1:Hid (∀ W,Calls Tryz.prog 64 #[.agg #[.int .i64 (u 3 0),.int .i64 (u 3 1),.int .i64 (u 3 2)],.agg #[.int .i64 (u 0 0),.int .i64 (u 0 1),.int .i64 (u 0 2)],.agg #[.int .i64 (u 1 0),.int .i64 (u 1 1),.int .i64 (u 1 2)]] W fun e w'=>e=.returned (.tuple #[.int .i64 (dt u 3 0 1),.int .i64 (rX u 3 0 1)])∧Below W.heap.size W w'):=fun W=>jU 3 0 1 hr W
  have C2:Hid (∀ W,Calls Tryz.prog 64 #[.agg #[.int .i64 (u 2 0),.int .i64 (u 2 1),.int .i64 (u 2 2)],.agg #[.int .i64 (u 3 0),.int .i64 (u 3 1),.int .i64 (u 3 2)],.agg #[.int .i64 (u 0 0),.int .i64 (u 0 1),.int .i64 (u 0 2)]] W fun e w'=>e=.returned (.tuple #[.int .i64 (dt u 2 3 0),.int .i64 (rX u 2 3 0)])∧Below W.heap.size W w'):=fun W=>jU 2 3 0 hr W
  have C3:Hid (∀ W,Calls Tryz.prog 64 #[.agg #[.int .i64 (u 1 0),.int .i64 (u 1 1),.int .i64 (u 1 2)],.agg #[.int .i64 (u 2 0),.int .i64 (u 2 1),.int .i64 (u 2 2)],.agg #[.int .i64 (u 3 0),.int .i64 (u 3 1),.int .i64 (u 3 2)]] W fun e w'=>e=.returned (.tuple #[.int .i64 (dt u 1 2 3),.int .i64 (rX u 1 2 3)])∧Below W.heap.size W w'):=fun W=>jU 1 2 3 hr W
  have rmn:∀ p q,ax (mn u p q):=fun p q=>bs (aS (hr _ _) (hr _ _)) (eu (aS (hr _ _) (hr _ _)))
  have rsz:∀ p q,ax (sz u p q):=fun p q=>bs (cN (aS (hr _ _) (hr _ _))).1 (cN (aS (hr _ _) (hr _ _))).1
  have rdt:∀ p q r,ax (dt u p q r):=fun p q r=>bs (bs (aS (hr _ _) (rmn _ _)) (eu (aS (hr _ _) (rmn _ _)))) (aS (hr _ _) (rmn _ _))
  have rrx:∀ p q r,ax (rX u p q r):=fun p q r=>bs (bs (aS (rsz _ _) (cN (hr _ _)).1) (aS (rsz _ _) (cN (hr _ _)).1)) (aS (rsz _ _) (cN (hr _ _)).1)
  have rrf:∀ p,ax (rF u p):=fun p=>bs (bs (aS (hr _ _) (hr _ _)) (aS (hr _ _) (hr _ _))) (aS (hr _ _) (hr _ _))
  have rrt:∀ i p q r,ax (rT u i p q r):=fun i p q r=>aS (rrf _) (rdt _ _ _)
  have rru:∀ i p q r,ax (dO u i p q r):=fun i p q r=>aS (rrx _ _ _) (rrf _)
  have L0:Hid (∀ W,Calls Tryz.prog 65 #[.agg #[.int .i64 (u 0 0),.int .i64 (u 0 1),.int .i64 (u 0 2)]] W fun e w'=>e=.returned (.int .i64 (rF u 0))∧Below W.heap.size W w'):=fun W=>mH 0 hr W
  have L1:Hid (∀ W,Calls Tryz.prog 65 #[.agg #[.int .i64 (u 1 0),.int .i64 (u 1 1),.int .i64 (u 1 2)]] W fun e w'=>e=.returned (.int .i64 (rF u 1))∧Below W.heap.size W w'):=fun W=>mH 1 hr W
  have L2:Hid (∀ W,Calls Tryz.prog 65 #[.agg #[.int .i64 (u 2 0),.int .i64 (u 2 1),.int .i64 (u 2 2)]] W fun e w'=>e=.returned (.int .i64 (rF u 2))∧Below W.heap.size W w'):=fun W=>mH 2 hr W
  have L3:Hid (∀ W,Calls Tryz.prog 65 #[.agg #[.int .i64 (u 3 0),.int .i64 (u 3 1),.int .i64 (u 3 2)]] W fun e w'=>e=.returned (.int .i64 (rF u 3))∧Below W.heap.size W w'):=fun W=>mH 3 hr W
  have P0:Hid (∀ W,Calls Tryz.prog 54 #[.int .i64 (rF u 3),.int .i64 (dt u 0 1 2)] W fun e w'=>e=.returned (.int .i64 (rT u 3 0 1 2))∧Below W.heap.size W w'):=fun W=>cd _ _ (rrf _) (rdt _ _ _) W
  have Q0:Hid (∀ W,Calls Tryz.prog 54 #[.int .i64 (rX u 0 1 2),.int .i64 (rF u 3)] W fun e w'=>e=.returned (.int .i64 (dO u 3 0 1 2))∧Below W.heap.size W w'):=fun W=>cd _ _ (rrx _ _ _) (rrf _) W
  have P1:Hid (∀ W,Calls Tryz.prog 54 #[.int .i64 (rF u 2),.int .i64 (dt u 3 0 1)] W fun e w'=>e=.returned (.int .i64 (rT u 2 3 0 1))∧Below W.heap.size W w'):=fun W=>cd _ _ (rrf _) (rdt _ _ _) W
  have Q1:Hid (∀ W,Calls Tryz.prog 54 #[.int .i64 (rX u 3 0 1),.int .i64 (rF u 2)] W fun e w'=>e=.returned (.int .i64 (dO u 2 3 0 1))∧Below W.heap.size W w'):=fun W=>cd _ _ (rrx _ _ _) (rrf _) W
  have P2:Hid (∀ W,Calls Tryz.prog 54 #[.int .i64 (rF u 1),.int .i64 (dt u 2 3 0)] W fun e w'=>e=.returned (.int .i64 (rT u 1 2 3 0))∧Below W.heap.size W w'):=fun W=>cd _ _ (rrf _) (rdt _ _ _) W
  have Q2:Hid (∀ W,Calls Tryz.prog 54 #[.int .i64 (rX u 2 3 0),.int .i64 (rF u 1)] W fun e w'=>e=.returned (.int .i64 (dO u 1 2 3 0))∧Below W.heap.size W w'):=fun W=>cd _ _ (rrx _ _ _) (rrf _) W
  have P3:Hid (∀ W,Calls Tryz.prog 54 #[.int .i64 (rF u 0),.int .i64 (dt u 1 2 3)] W fun e w'=>e=.returned (.int .i64 (rT u 0 1 2 3))∧Below W.heap.size W w'):=fun W=>cd _ _ (rrf _) (rdt _ _ _) W
  have Q3:Hid (∀ W,Calls Tryz.prog 54 #[.int .i64 (rX u 1 2 3),.int .i64 (rF u 0)] W fun e w'=>e=.returned (.int .i64 (dO u 0 1 2 3))∧Below W.heap.size W w'):=fun W=>cd _ _ (rrx _ _ _) (rrf _) W
  have D1:Hid (∀ W,Calls Tryz.prog 56 #[.int .i64 (rT u 3 0 1 2),.int .i64 (rT u 2 3 0 1)] W fun e w'=>e=.returned (.int .i64 (aE (rT u 3 0 1 2) (M.neg (rT u 2 3 0 1))))∧Below W.heap.size W w'):=fun W=>fY _ _ (rrt _ _ _ _) (rrt _ _ _ _) W
  have D2:Hid (∀ W,Calls Tryz.prog 56 #[.int .i64 (rT u 1 2 3 0),.int .i64 (rT u 0 1 2 3)] W fun e w'=>e=.returned (.int .i64 (aE (rT u 1 2 3 0) (M.neg (rT u 0 1 2 3))))∧Below W.heap.size W w'):=fun W=>fY _ _ (rrt _ _ _ _) (rrt _ _ _ _) W
  have S1:Hid (∀ W,Calls Tryz.prog 53 #[.int .i64 (aE (rT u 3 0 1 2) (M.neg (rT u 2 3 0 1))),.int .i64 (aE (rT u 1 2 3 0) (M.neg (rT u 0 1 2 3)))] W fun e w'=>e=.returned (.int .i64 (oq u))∧Below W.heap.size W w'):=fun W=>eO _ _ (bs (rrt _ _ _ _) (eu (rrt _ _ _ _))) (bs (rrt _ _ _ _) (eu (rrt _ _ _ _))) W
  have Y1:Hid (∀ W,Calls Tryz.prog 53 #[.int .i64 (dO u 0 1 2 3),.int .i64 (dO u 1 2 3 0)] W fun e w'=>e=.returned (.int .i64 (aE (dO u 0 1 2 3) (dO u 1 2 3 0)))∧Below W.heap.size W w'):=fun W=>eO _ _ (rru _ _ _ _) (rru _ _ _ _) W
  have Y2:Hid (∀ W,Calls Tryz.prog 53 #[.int .i64 (aE (dO u 0 1 2 3) (dO u 1 2 3 0)),.int .i64 (dO u 2 3 0 1)] W fun e w'=>e=.returned (.int .i64 (aE (aE (dO u 0 1 2 3) (dO u 1 2 3 0)) (dO u 2 3 0 1)))∧Below W.heap.size W w'):=fun W=>eO _ _ (bs (rru _ _ _ _) (rru _ _ _ _)) (rru _ _ _ _) W
  have Y3:Hid (∀ W,Calls Tryz.prog 53 #[.int .i64 (aE (aE (dO u 0 1 2 3) (dO u 1 2 3 0)) (dO u 2 3 0 1)),.int .i64 (dO u 3 0 1 2)] W fun e w'=>e=.returned (.int .i64 (ot u))∧Below W.heap.size W w'):=fun W=>eO _ _ (bs (bs (rru _ _ _ _) (rru _ _ _ _)) (rru _ _ _ _)) (rru _ _ _ _) W
  clear hr rmn rsz rdt rrx rrf rrt rru
  generalize oq u=dd at *
  generalize ot u=ss at *
  generalize aE (rT u 3 0 1 2) (M.neg (rT u 2 3 0 1))=xv at *
  generalize aE (rT u 1 2 3 0) (M.neg (rT u 0 1 2 3))=yv at *
  generalize aE (aE (dO u 0 1 2 3) (dO u 1 2 3 0)) (dO u 2 3 0 1)=s2 at *
  generalize aE (dO u 0 1 2 3) (dO u 1 2 3 0)=s1 at *
  generalize rT u 3 0 1 2=t0 at *
  generalize rT u 2 3 0 1=t1 at *
  generalize rT u 1 2 3 0=t2 at *
  generalize rT u 0 1 2 3=t3 at *
  generalize dO u 3 0 1 2=v0 at *
  generalize dO u 2 3 0 1=v1 at *
  generalize dO u 1 2 3 0=v2 at *
  generalize dO u 0 1 2 3=v3 at *
  generalize rF u 0=l0 at *
  generalize rF u 1=l1 at *
  generalize rF u 2=l2 at *
  generalize rF u 3=l3 at *
  generalize dt u 0 1 2=d0 at *
  generalize dt u 3 0 1=d1 at *
  generalize dt u 2 3 0=d2 at *
  generalize dt u 1 2 3=d3 at *
  generalize rX u 0 1 2=z0 at *
  generalize rX u 3 0 1=z1 at *
  generalize rX u 2 3 0=z2 at *
  generalize rX u 1 2 3=z3 at *
  obtain⟨hb0,a_k,b_k,c_k,d_k,hsz0⟩:=Ah w (.cells #[.int .i64 (u 0 0),.int .i64 (u 0 1),.int .i64 (u 0 2)] 70) (.cells #[.int .i64 (u 1 0),.int .i64 (u 1 1),.int .i64 (u 1 2)] 70) (.cells #[.int .i64 (u 2 0),.int .i64 (u 2 1),.int .i64 (u 2 2)] 70) (.cells #[.int .i64 (u 3 0),.int .i64 (u 3 1),.int .i64 (u 3 2)] 70)
  clear hsz0
  go_enter Tryz.func35,Tryz.ntmps35
  have f_a0:=af a_k 0 rfl
  have f_a1:=af a_k 1 rfl
  have f_a2:=af a_k 2 rfl
  have f_b0:=af b_k 0 rfl
  have f_b1:=af b_k 1 rfl
  have f_b2:=af b_k 2 rfl
  have f_c0:=af c_k 0 rfl
  have f_c1:=af c_k 1 rfl
  have f_c2:=af c_k 2 rfl
  go_wp2_with fail
  clear f_a0 f_a1 f_a2 f_b0 f_b1 f_b2 f_c0 f_c1 f_c2
  generalize ((((w.alloc (.cells #[.int .i64 (u 0 0),.int .i64 (u 0 1),.int .i64 (u 0 2)] 70)).alloc (.cells #[.int .i64 (u 1 0),.int .i64 (u 1 1),.int .i64 (u 1 2)] 70)).alloc (.cells #[.int .i64 (u 2 0),.int .i64 (u 2 1),.int .i64 (u 2 2)] 70)).alloc (.cells #[.int .i64 (u 3 0),.int .i64 (u 3 1),.int .i64 (u 3 2)] 70))=x0 at hb0 a_k b_k c_k d_k ⊢
  refine(C0.out _).mono ?_
  rintro _ y1 ⟨rfl,hw1⟩
  replace a_k:=am hw1 a_k
  replace b_k:=am hw1 b_k
  replace c_k:=am hw1 c_k
  replace d_k:=am hw1 d_k
  replace hb0:=ac hb0 hw1
  have f_d0:=af d_k 0 rfl
  have f_d1:=af d_k 1 rfl
  have f_d2:=af d_k 2 rfl
  have f_a0:=af a_k 0 rfl
  have f_a1:=af a_k 1 rfl
  have f_a2:=af a_k 2 rfl
  have f_b0:=af b_k 0 rfl
  have f_b1:=af b_k 1 rfl
  have f_b2:=af b_k 2 rfl
  go_wp2_with fail
  clear f_d0 f_d1 f_d2 f_a0 f_a1 f_a2 f_b0 f_b1 f_b2
  refine(C1.out _).mono ?_
  rintro _ y2 ⟨rfl,hw2⟩
  replace a_k:=am hw2 a_k
  replace b_k:=am hw2 b_k
  replace c_k:=am hw2 c_k
  replace d_k:=am hw2 d_k
  replace hb0:=ac hb0 hw2
  have f_c0:=af c_k 0 rfl
  have f_c1:=af c_k 1 rfl
  have f_c2:=af c_k 2 rfl
  have f_d0:=af d_k 0 rfl
  have f_d1:=af d_k 1 rfl
  have f_d2:=af d_k 2 rfl
  have f_a0:=af a_k 0 rfl
  have f_a1:=af a_k 1 rfl
  have f_a2:=af a_k 2 rfl
  go_wp2_with fail
  clear f_c0 f_c1 f_c2 f_d0 f_d1 f_d2 f_a0 f_a1 f_a2
  refine(C2.out _).mono ?_
  rintro _ y3 ⟨rfl,hw3⟩
  replace a_k:=am hw3 a_k
  replace b_k:=am hw3 b_k
  replace c_k:=am hw3 c_k
  replace d_k:=am hw3 d_k
  replace hb0:=ac hb0 hw3
  have f_b0:=af b_k 0 rfl
  have f_b1:=af b_k 1 rfl
  have f_b2:=af b_k 2 rfl
  have f_c0:=af c_k 0 rfl
  have f_c1:=af c_k 1 rfl
  have f_c2:=af c_k 2 rfl
  have f_d0:=af d_k 0 rfl
  have f_d1:=af d_k 1 rfl
  have f_d2:=af d_k 2 rfl
  go_wp2_with fail
  clear f_b0 f_b1 f_b2 f_c0 f_c1 f_c2 f_d0 f_d1 f_d2
  refine(C3.out _).mono ?_
  rintro _ y4 ⟨rfl,hw4⟩
  replace a_k:=am hw4 a_k
  replace b_k:=am hw4 b_k
  replace c_k:=am hw4 c_k
  replace d_k:=am hw4 d_k
  replace hb0:=ac hb0 hw4
  go_wp2_with fail
  have KK5:∀ W,Below y4.heap.size y4 W->W.cell? ⟨w.heap.size+3,0,none⟩=some (.int .i64 (u 3 0))∧W.cell? ⟨w.heap.size+3,1,none⟩=some (.int .i64 (u 3 1))∧W.cell? ⟨w.heap.size+3,2,none⟩=some (.int .i64 (u 3 2))∧W.cell? ⟨w.heap.size+2,0,none⟩=some (.int .i64 (u 2 0))∧W.cell? ⟨w.heap.size+2,1,none⟩=some (.int .i64 (u 2 1))∧W.cell? ⟨w.heap.size+2,2,none⟩=some (.int .i64 (u 2 2)):=fun W hb=>⟨aj (af d_k 0 rfl) hb,aj (af d_k 1 rfl) hb,aj (af d_k 2 rfl) hb,aj (af c_k 0 rfl) hb,aj (af c_k 1 rfl) hb,aj (af c_k 2 rfl) hb⟩
  have hC5_0:=(ak y4).drew
  have hs5_0:=(ak y4).drew
  go_region_held3 (fun W=>W.cell? ⟨w.heap.size+3,0,none⟩=some (.int .i64 (u 3 0))∧W.cell? ⟨w.heap.size+3,1,none⟩=some (.int .i64 (u 3 1))∧W.cell? ⟨w.heap.size+3,2,none⟩=some (.int .i64 (u 3 2))∧W.cell? ⟨w.heap.size+2,0,none⟩=some (.int .i64 (u 2 0))∧W.cell? ⟨w.heap.size+2,1,none⟩=some (.int .i64 (u 2 1))∧W.cell? ⟨w.heap.size+2,2,none⟩=some (.int .i64 (u 2 2)))
    (with_reducible first|assumption|exact KK5 _ hC5_0|exact KK5 _ hC5_1|exact KK5 _ hC5_2|exact KK5 _ hC5_3|exact KK5 _ hC5_4|exact KK5 _ hC5_5|fail)
    (first
      | (go_at_call 56;have _t:=hs5_4;refine(D1.out _).mono ?_;rintro _ y5_5 ⟨rfl,hs5_5⟩;have hC5_5:=ac hC5_4 hs5_5)
      | (go_at_call 54;have _t:=hs5_3;refine(P1.out _).mono ?_;rintro _ y5_4 ⟨rfl,hs5_4⟩;have hC5_4:=ac hC5_3 hs5_4)
      | (go_at_call 65;have _t:=hs5_2;refine(L2.out _).mono ?_;rintro _ y5_3 ⟨rfl,hs5_3⟩;have hC5_3:=ac hC5_2 hs5_3)
      | (go_at_call 54;have _t:=hs5_1;refine(P0.out _).mono ?_;rintro _ y5_2 ⟨rfl,hs5_2⟩;have hC5_2:=ac hC5_1 hs5_2)
      | (go_at_call 65; refine (L3.out _).mono ?_; rintro _ y5_1 ⟨rfl,hs5_1⟩; have hC5_1:=ac hC5_0 hs5_1))
  replace a_k:=am hC5_5 a_k
  replace b_k:=am hC5_5 b_k
  replace c_k:=am hC5_5 c_k
  replace d_k:=am hC5_5 d_k
  replace hb0:=ac hb0 hC5_5
  go_wp2_with fail
  have KK6:∀ W,Below y5_5.heap.size y5_5 W->W.cell? ⟨w.heap.size+1,0,none⟩=some (.int .i64 (u 1 0))∧W.cell? ⟨w.heap.size+1,1,none⟩=some (.int .i64 (u 1 1))∧W.cell? ⟨w.heap.size+1,2,none⟩=some (.int .i64 (u 1 2))∧W.cell? ⟨w.heap.size,0,none⟩=some (.int .i64 (u 0 0))∧W.cell? ⟨w.heap.size,1,none⟩=some (.int .i64 (u 0 1))∧W.cell? ⟨w.heap.size,2,none⟩=some (.int .i64 (u 0 2)):=fun W hb=>⟨aj (af b_k 0 rfl) hb,aj (af b_k 1 rfl) hb,aj (af b_k 2 rfl) hb,aj (af a_k 0 rfl) hb,aj (af a_k 1 rfl) hb,aj (af a_k 2 rfl) hb⟩
  have hC6_0:=(ak y5_5).drew
  have hs6_0:=(ak y5_5).drew
  go_region_held3 (fun W=>W.cell? ⟨w.heap.size+1,0,none⟩=some (.int .i64 (u 1 0))∧W.cell? ⟨w.heap.size+1,1,none⟩=some (.int .i64 (u 1 1))∧W.cell? ⟨w.heap.size+1,2,none⟩=some (.int .i64 (u 1 2))∧W.cell? ⟨w.heap.size,0,none⟩=some (.int .i64 (u 0 0))∧W.cell? ⟨w.heap.size,1,none⟩=some (.int .i64 (u 0 1))∧W.cell? ⟨w.heap.size,2,none⟩=some (.int .i64 (u 0 2)))
    (with_reducible first|assumption|exact KK6 _ hC6_0|exact KK6 _ hC6_1|exact KK6 _ hC6_2|exact KK6 _ hC6_3|exact KK6 _ hC6_4|exact KK6 _ hC6_5|fail)
    (first
      | (go_at_call 56;have _t:=hs6_4;refine(D2.out _).mono ?_;rintro _ y6_5 ⟨rfl,hs6_5⟩;have hC6_5:=ac hC6_4 hs6_5)
      | (go_at_call 54;have _t:=hs6_3;refine(P3.out _).mono ?_;rintro _ y6_4 ⟨rfl,hs6_4⟩;have hC6_4:=ac hC6_3 hs6_4)
      | (go_at_call 65;have _t:=hs6_2;refine(L0.out _).mono ?_;rintro _ y6_3 ⟨rfl,hs6_3⟩;have hC6_3:=ac hC6_2 hs6_3)
      | (go_at_call 54;have _t:=hs6_1;refine(P2.out _).mono ?_;rintro _ y6_2 ⟨rfl,hs6_2⟩;have hC6_2:=ac hC6_1 hs6_2)
      | (go_at_call 65; refine (L1.out _).mono ?_; rintro _ y6_1 ⟨rfl,hs6_1⟩; have hC6_1:=ac hC6_0 hs6_1))
  replace a_k:=am hC6_5 a_k
  replace b_k:=am hC6_5 b_k
  replace c_k:=am hC6_5 c_k
  replace d_k:=am hC6_5 d_k
  replace hb0:=ac hb0 hC6_5
  go_wp2_with fail
  have KK7:∀ W,Below y6_5.heap.size y6_5 W->W.cell? ⟨w.heap.size,0,none⟩=some (.int .i64 (u 0 0))∧W.cell? ⟨w.heap.size,1,none⟩=some (.int .i64 (u 0 1))∧W.cell? ⟨w.heap.size,2,none⟩=some (.int .i64 (u 0 2))∧W.cell? ⟨w.heap.size+1,0,none⟩=some (.int .i64 (u 1 0))∧W.cell? ⟨w.heap.size+1,1,none⟩=some (.int .i64 (u 1 1))∧W.cell? ⟨w.heap.size+1,2,none⟩=some (.int .i64 (u 1 2)):=fun W hb=>⟨aj (af a_k 0 rfl) hb,aj (af a_k 1 rfl) hb,aj (af a_k 2 rfl) hb,aj (af b_k 0 rfl) hb,aj (af b_k 1 rfl) hb,aj (af b_k 2 rfl) hb⟩
  have hC7_0:=(ak y6_5).drew
  have hs7_0:=(ak y6_5).drew
  go_region_held3 (fun W=>W.cell? ⟨w.heap.size,0,none⟩=some (.int .i64 (u 0 0))∧W.cell? ⟨w.heap.size,1,none⟩=some (.int .i64 (u 0 1))∧W.cell? ⟨w.heap.size,2,none⟩=some (.int .i64 (u 0 2))∧W.cell? ⟨w.heap.size+1,0,none⟩=some (.int .i64 (u 1 0))∧W.cell? ⟨w.heap.size+1,1,none⟩=some (.int .i64 (u 1 1))∧W.cell? ⟨w.heap.size+1,2,none⟩=some (.int .i64 (u 1 2)))
    (with_reducible first|assumption|exact KK7 _ hC7_0|exact KK7 _ hC7_1|exact KK7 _ hC7_2|exact KK7 _ hC7_3|exact KK7 _ hC7_4|exact KK7 _ hC7_5|fail)
    (first
      | (go_at_call 53;have _t:=hs7_4;refine(Y1.out _).mono ?_;rintro _ y7_5 ⟨rfl,hs7_5⟩;have hC7_5:=ac hC7_4 hs7_5)
      | (go_at_call 54;have _t:=hs7_3;refine(Q2.out _).mono ?_;rintro _ y7_4 ⟨rfl,hs7_4⟩;have hC7_4:=ac hC7_3 hs7_4)
      | (go_at_call 65;have _t:=hs7_2;refine(L1.out _).mono ?_;rintro _ y7_3 ⟨rfl,hs7_3⟩;have hC7_3:=ac hC7_2 hs7_3)
      | (go_at_call 54;have _t:=hs7_1;refine(Q3.out _).mono ?_;rintro _ y7_2 ⟨rfl,hs7_2⟩;have hC7_2:=ac hC7_1 hs7_2)
      | (go_at_call 65; refine (L0.out _).mono ?_; rintro _ y7_1 ⟨rfl,hs7_1⟩; have hC7_1:=ac hC7_0 hs7_1))
  replace a_k:=am hC7_5 a_k
  replace b_k:=am hC7_5 b_k
  replace c_k:=am hC7_5 c_k
  replace d_k:=am hC7_5 d_k
  replace hb0:=ac hb0 hC7_5
  have f_c0:=af c_k 0 rfl
  have f_c1:=af c_k 1 rfl
  have f_c2:=af c_k 2 rfl
  go_wp2_with fail
  clear f_c0 f_c1 f_c2
  refine(L2.out _).mono ?_
  rintro _ y8 ⟨rfl,hw8⟩
  replace a_k:=am hw8 a_k
  replace b_k:=am hw8 b_k
  replace c_k:=am hw8 c_k
  replace d_k:=am hw8 d_k
  replace hb0:=ac hb0 hw8
  go_wp2_with fail
  refine(Q1.out _).mono ?_
  rintro _ y9 ⟨rfl,hw9⟩
  replace a_k:=am hw9 a_k
  replace b_k:=am hw9 b_k
  replace c_k:=am hw9 c_k
  replace d_k:=am hw9 d_k
  replace hb0:=ac hb0 hw9
  go_wp2_with fail
  refine(Y2.out _).mono ?_
  rintro _ y10 ⟨rfl,hw10⟩
  replace a_k:=am hw10 a_k
  replace b_k:=am hw10 b_k
  replace c_k:=am hw10 c_k
  replace d_k:=am hw10 d_k
  replace hb0:=ac hb0 hw10
  go_wp2_with fail
  have KK11:∀ W,Below y10.heap.size y10 W->W.cell? ⟨w.heap.size+3,0,none⟩=some (.int .i64 (u 3 0))∧W.cell? ⟨w.heap.size+3,1,none⟩=some (.int .i64 (u 3 1))∧W.cell? ⟨w.heap.size+3,2,none⟩=some (.int .i64 (u 3 2)):=fun W hb=>⟨aj (af d_k 0 rfl) hb,aj (af d_k 1 rfl) hb,aj (af d_k 2 rfl) hb⟩
  have hC11_0:=(ak y10).drew
  have hs11_0:=(ak y10).drew
  go_region_held3 (fun W=>W.cell? ⟨w.heap.size+3,0,none⟩=some (.int .i64 (u 3 0))∧W.cell? ⟨w.heap.size+3,1,none⟩=some (.int .i64 (u 3 1))∧W.cell? ⟨w.heap.size+3,2,none⟩=some (.int .i64 (u 3 2)))
    (with_reducible first|assumption|exact KK11 _ hC11_0|exact KK11 _ hC11_1|exact KK11 _ hC11_2|exact KK11 _ hC11_3|exact KK11 _ hC11_4|fail)
    (first
      | (go_at_call 53;have _t:=hs11_3;refine(Y3.out _).mono ?_;rintro _ y11_4 ⟨rfl,hs11_4⟩;have hC11_4:=ac hC11_3 hs11_4)
      | (go_at_call 54;have _t:=hs11_2;refine(Q0.out _).mono ?_;rintro _ y11_3 ⟨rfl,hs11_3⟩;have hC11_3:=ac hC11_2 hs11_3)
      | (go_at_call 65;have _t:=hs11_1;refine(L3.out _).mono ?_;rintro _ y11_2 ⟨rfl,hs11_2⟩;have hC11_2:=ac hC11_1 hs11_2)
      | (go_at_call 53; refine (S1.out _).mono ?_; rintro _ y11_1 ⟨rfl,hs11_1⟩; have hC11_1:=ac hC11_0 hs11_1))
  replace a_k:=am hC11_4 a_k
  replace b_k:=am hC11_4 b_k
  replace c_k:=am hC11_4 c_k
  replace d_k:=am hC11_4 d_k
  replace hb0:=ac hb0 hC11_4
  go_wp2
  exact bodyPost_ret (v:=.tuple #[.int .i64 dd,.int .i64 ss]) (by simp[results,Tryz.results35,go_sem]) rfl ⟨rfl,hb0⟩
theorem vG {d s a:Int} (rd:ax d) (rs:ax s) (ra:ax a) (w:World) :
  Calls Tryz.prog 28 #[.int .i64 d,.int .i64 s,.int .i64 a] w fun e w'=>e=.returned (.tuple #[.agg #[.int .i64 (fV d),.int .i64 1],.bool (decide (bk (ay a s)<rg d))])∧Below w.heap.size w w':=by
 have P:Hid (∀ W,Calls Tryz.prog 54 #[.int .i64 a,.int .i64 s] W fun e w'=>e=.returned (.int .i64 (ay a s))∧Below W.heap.size W w'):=fun W=>cd _ _ ra rs W
 have A:Hid (∀ W,Calls Tryz.prog 55 #[.int .i64 d] W fun e w'=>e=.returned (.int .i64 (rg d))∧Below W.heap.size W w'):=fun W=>ky rd W
 have CL:Hid (∀ W,Calls Tryz.prog 57 #[.int .i64 (ay a s),.int .i64 (rg d)] W fun e w'=>e=.returned (.bool (decide (bk (ay a s)<rg d)))∧Below W.heap.size W w'):=fun W=>by
  obtain⟨q1,q2⟩:=cN rd
  have:=BC (aS ra rs) q1 W
  rw[iB q2] at this
  exact this
 have V:Hid (∀ W,Calls Tryz.prog 58 #[.int .i64 d] W fun e w'=>e=.returned (.int .i64 (fV d))∧Below W.heap.size W w'):=fun W=>Dh rd W
 clear rd rs ra
 generalize decide (bk (ay a s)<rg d)=b at *
 generalize fV d=v at *
 generalize rg d=g at *
 generalize ay a s=m at *
 have hb0:=ah w (.cells #[.int .i64 0,.int .i64 0] 27)
 have r_k:=aC w (.cells #[.int .i64 0,.int .i64 0] 27)
 go_enter Tryz.func28,Tryz.ntmps28
 go_wp2_with fail
 generalize (w.alloc (.cells #[.int .i64 0,.int .i64 0] 27))=x0 at hb0 r_k ⊢
 refine(P.out _).mono ?_
 rintro _ y1 ⟨rfl,hw1⟩
 replace r_k:=am hw1 r_k
 replace hb0:=ac hb0 hw1
 go_wp2_with fail
 refine(A.out _).mono ?_
 rintro _ y2 ⟨rfl,hw2⟩
 replace r_k:=am hw2 r_k
 replace hb0:=ac hb0 hw2
 go_wp2_with fail
 refine(CL.out _).mono ?_
 rintro _ y3 ⟨rfl,hw3⟩
 replace r_k:=am hw3 r_k
 replace hb0:=ac hb0 hw3
 go_wp2_with fail
 refine(V.out _).mono ?_
 rintro _ y4 ⟨rfl,hw4⟩
 replace r_k:=am hw4 r_k
 replace hb0:=ac hb0 hw4
 have k0:=af r_k 0 rfl
 have k1:=af r_k 1 rfl
 have z0:=av r_k 0
 have z1:=av r_k 1
 go_wp2
 exact bodyPost_ret (v:=.tuple #[.agg #[.int .i64 v,.int .i64 1],.bool b]) (by simp[results,Tryz.results28,go_sem,k0,k1]) rfl ⟨rfl,(hb0.setCell (p:=⟨w.heap.size,0,none⟩) (Nat.le_refl _) _).setCell (p:=⟨w.heap.size,1,none⟩) (Nat.le_refl _) _⟩
theorem sT (ao:Option Addr) (n cap:Nat) (s:Nat->Nat->Int) (w:World) (h:fy w ao n cap s) (hs:∀ i k,ax (s i k)) :
    Calls Tryz.prog 25 #[.slice ao n cap] w fun x w'=>x=.returned (.bool (bL (dz s) n))∧w'=w:=by
  have hl:=h.le
  have hm:=h.max
  have CC:Hid (∀ i k W,Calls Tryz.prog 51 #[.int .i64 (s i k)] W fun e w'=>e=.returned (.bool (bz (s i k)))∧w'=W):=fun i k W=>xx (hs i k) W
  clear hs
  go_enter Tryz.func25,Tryz.ntmps25
  go_wp2_with fail
  go_loopw [3] (fun i wr=>∃ k:Nat,k<=n∧i=.int .i64 k∧Hid (∀ j,j<k->dz s j=true)∧w=wr) (fun i _=>n-(intOf i).toNat)
  case atStart=>exact⟨0,Nat.zero_le _,rfl,fun j hj=>by omega,rfl⟩
  case round=>
    obtain⟨k,hk,rfl,HO,rfl⟩:=hrel
    by_cases hlt:k<n
    · obtain⟨b,off,rfl,hb,hc⟩:=h.spot (by omega)
      have c0:=(hc k hlt).1
      have c1:=(hc k hlt).2.1
      have c2:=(hc k hlt).2.2
      have CX:Hid (∀ W,Calls Tryz.prog 51 #[.int .i64 (s k 0)] W fun e w'=>e=.returned (.bool (bz (s k 0)))∧w'=W):=CC.out k 0
      have CY:Hid (∀ W,Calls Tryz.prog 51 #[.int .i64 (s k 1)] W fun e w'=>e=.returned (.bool (bz (s k 1)))∧w'=W):=CC.out k 1
      have CZ:Hid (∀ W,Calls Tryz.prog 51 #[.int .i64 (s k 2)] W fun e w'=>e=.returned (.bool (bz (s k 2)))∧w'=W):=CC.out k 2
      have HK:Hid (dz s k=false->false=bL (dz s) n):=fun q=>(decide_eq_false fun hx=>by have:=hx k hlt;rw[this] at q;cases q).symm
      have HY:Hid (dz s k=true->∀ j,j<k+1->dz s j=true):=fun q j hj=>by
        by_cases e:j=k
        · subst e;exact q
        · exact HO.out j (by omega)
      have HS:Hid (dz s k=(bz (s k 0)&&bz (s k 1)&&bz (s k 2))):=rfl
      clear hc CC
      generalize dz s k=b0 at *
      generalize bz (s k 0)=b1 at *
      generalize bz (s k 1)=b2 at *
      generalize bz (s k 2)=b3 at *
      cases b1<;>cases b2<;>cases b3
      all_goals
        obtain rfl:b0=_:=HS.out
        go_wp2_with fail
        refine(CX.out _).mono ?_
        rintro _ _ ⟨rfl,rfl⟩
        go_wp2_with fail
        refine(CY.out _).mono ?_
        rintro _ _ ⟨rfl,rfl⟩
        go_wp2_with fail
        refine(CZ.out _).mono ?_
        rintro _ _ ⟨rfl,rfl⟩
        go_wp2
        first
          | (go_ret;exact⟨bD (HK.out rfl),rfl⟩)
          | (go_roundw
             case rel=>exact⟨k+1,by omega,by go_num,HY.out rfl,by first|rfl|trivial⟩
             case measure=>simp [intOf]; omega)
    · obtain rfl:k=n:=by omega
      have HD:Hid (true=bL (dz s) k):=(decide_eq_true HO.out).symm
      go_wp2
      go_ret
      exact⟨bD HD.out,rfl⟩
theorem mN (b:Int) (w:World) (hb:ax b) (hp:aF b=true) :
  Calls Tryz.prog 80 #[.int .i64 b] w fun r w'=>∃ v,r=.returned v∧aX w w' (aq b) v:=by
 have r_k:=aC w (.cells #[.bool false,.slice none 0 0,.int .i64 0] 33)
 have hb0:=ah w (.cells #[.bool false,.slice none 0 0,.int .i64 0] 33)
 have CO:Hid (∀ W,Calls Tryz.prog 108 #[.int .i64 b] W fun r w'=>∃ v,r=.returned v∧aX W w' (aq b) v):=fun W=>ux b W hb hp
 go_enter Tryz.func80,Tryz.ntmps80
 go_wp2_with fail
 generalize w.alloc (.cells #[.bool false,.slice none 0 0,.int .i64 0] 33)=x0 at r_k hb0 ⊢
 have hs0:=(aGe r_k).1
 refine(CO.out _).mono ?_
 rintro _ y1 ⟨v,rfl,h1⟩
 obtain⟨n_g,n_o,n_n,n_c,n_e,rfl⟩:=aT h1
 have hw:=h1.below
 have r_k:=(hw.block _ (aGe r_k).1).trans r_k
 have k0:=af r_k 0 rfl
 have k1:=af r_k 1 rfl
 have k2:=af r_k 2 rfl
 have z0:=av r_k 0
 have z1:=av r_k 1
 have z2:=av r_k 2
 go_wp2
 refine bodyPost_ret (v:=.agg #[.bool n_g,.slice n_o n_n n_c,.int .i64 n_e]) (by simp[results,Tryz.results80,go_sem,k0,k1,k2]) rfl ⟨_,rfl,?_⟩
 exact bM (g:=w.heap.size) h1 hb0 (Nat.le_refl _) hs0 _ _ _
theorem BD {B:Nat} {w:World} {y:aG} (h:bH B w y.V y.v) (ok:dD y=true):bH B w (-y.V) y.opp.v:=by
 obtain⟨m,h1,h2⟩:=bH.parts h
 obtain⟨e1,e2⟩:=Ae ok
 rw[e1] at e2
 obtain⟨_,rfl,_⟩:=h1.unique (jx ok).1
 exact⟨_,_,_,_,rfl,e2,h2⟩
theorem bH.shape {B:Nat} {w:World} {V:Int} {v:Value} (h:bH B w V v):∃ ng so sn sc e,v=.agg #[.bool ng,.slice so sn sc,.int .i64 e]:=h.three
theorem iC {B:Nat} {w:World} {x y:Value} {A C:Int} {K:Nat} (hx:bH B w A x) (hy:bH B w C y) (hB:B<=w.heap.size) (bA:Bd K A) (bC:Bd K C) (hK:K<=28000) :
  Calls Tryz.prog 31 #[x,y] w fun r w'=>∃ v,r=.returned v∧bH B w' (A-C) v∧Below w.heap.size w w':=by
 have CS:∀ W,Below w.heap.size w W->Calls Tryz.prog 61 #[x,y] W fun r w'=>∃ v,r=.returned v∧bH B w' (A-C) v∧Below W.heap.size W w':=fun W hW=>by
  have hx':=hx.keeps hW
  have hy':=hy.keeps hW
  obtain⟨x,rfl,hR,ok,rfl⟩:=hx'.num.open (bA.ok (by omega))
  obtain⟨y,rfl,hR',ok',rfl⟩:=hy'.num.open (bC.ok (by omega))
  refine(xG x y W hR hR' ok ok' (K:=K) (by omega) bA bC).mono ?_
  rintro r w' ⟨v,rfl,h⟩
  refine⟨v,rfl,?_,h.1⟩
  rw[Int.sub_eq_add_neg]
  rcases h.2 with h1|⟨h1,rfl⟩|⟨h1,rfl⟩
  ·exact h1.dan.lower (Nat.le_trans hB hW.size)
  ·rw[h1,Int.zero_add];exact(BD hy' ok').keeps h.1
  ·rw[h1,Int.add_zero];exact hx'.keeps h.1
 obtain⟨p_g,p_o,p_n,p_c,p_e,rfl⟩:=hx.shape
 obtain⟨q_g,q_o,q_n,q_c,q_e,rfl⟩:=hy.shape
 clear hx hy bA bC
 have hb0:=df w (.cells #[.bool p_g,.slice p_o p_n p_c,.int .i64 p_e] 33) (.cells #[.bool q_g,.slice q_o q_n q_c,.int .i64 q_e] 33) (.cells #[.bool false,.slice none 0 0,.int .i64 0] 33)
 have r_k:=jw w (.cells #[.bool p_g,.slice p_o p_n p_c,.int .i64 p_e] 33) (.cells #[.bool q_g,.slice q_o q_n q_c,.int .i64 q_e] 33) (.cells #[.bool false,.slice none 0 0,.int .i64 0] 33)
 go_enter Tryz.func31,Tryz.ntmps31
 go_wp2_with fail
 generalize ((w.alloc (.cells #[.bool p_g,.slice p_o p_n p_c,.int .i64 p_e] 33)).alloc (.cells #[.bool q_g,.slice q_o q_n q_c,.int .i64 q_e] 33)).alloc (.cells #[.bool false,.slice none 0 0,.int .i64 0] 33)=x0 at r_k hb0 ⊢
 refine(CS _ hb0).mono ?_
 rintro _ y1 ⟨v,rfl,h1,hw⟩
 obtain⟨n_g,n_o,n_n,n_c,n_e,rfl⟩:=h1.shape
 have r_k:=(hw.block _ (aGe r_k).1).trans r_k
 have k0:=af r_k 0 rfl
 have k1:=af r_k 1 rfl
 have k2:=af r_k 2 rfl
 have z0:=av r_k 0
 have z1:=av r_k 1
 have z2:=av r_k 2
 go_wp2
 refine bodyPost_ret (v:=.agg #[.bool n_g,.slice n_o n_n n_c,.int .i64 n_e]) (by simp[results,Tryz.results31,go_sem,k0,k1,k2]) rfl ⟨_,rfl,bE h1 r_k _ _ _,dE (ac hb0 hw) (by omega) _ _ _⟩
theorem cV {w:World} {x y:Value} {A C:Int} {K:Nat} (hx:aR w x A) (hy:aR w y C) (bA:Bd K A) (bC:Bd K C) (hK:K<=14000) :
  Calls Tryz.prog 32 #[x,y] w fun r w'=>∃ v V,r=.returned v∧aX w w' V v∧V*2^4194304=A*C∧Bd (2*K) V:=by
 have CS:∀ W,Below w.heap.size w W->Calls Tryz.prog 62 #[x,y] W fun r w'=>∃ v V,r=.returned v∧aX W w' V v∧V*2^4194304=A*C∧Bd (2*K) V:=fun W hW=>by
  have hx':=hx.keeps hW
  have hy':=hy.keeps hW
  obtain⟨x,rfl,hR,ok,rfl⟩:=hx'.open (bA.ok (by omega))
  obtain⟨y,rfl,hR',ok',rfl⟩:=hy'.open (bC.ok (by omega))
  refine(qg x y W hR hR' (cA ok) (cA ok')).mono ?_
  rintro r w' ⟨v,rfl,h⟩
  have hC:=mw (x:=x) (y:=y) (by have:=(cA ok).2.2.1;omega) (by have:=(cA ok').2.2.1;omega)
  exact⟨v,_,rfl,h,hC,bA.mul bC hC (by omega)⟩
 obtain⟨p,rfl,_,_,_⟩:=hx.open (bA.ok (by omega))
 obtain⟨q,rfl,_,_,_⟩:=hy.open (bC.ok (by omega))
 obtain⟨p_g,p_o,p_n,p_c,p_d,p_e⟩:=p
 obtain⟨q_g,q_o,q_n,q_c,q_d,q_e⟩:=q
 unfold aG.v at *
 simp only at *
 clear hx hy bA bC
 have hb0:=df w (.cells #[.bool p_g,.slice p_o p_n p_c,.int .i64 p_e] 33) (.cells #[.bool q_g,.slice q_o q_n q_c,.int .i64 q_e] 33) (.cells #[.bool false,.slice none 0 0,.int .i64 0] 33)
 have r_k:=jw w (.cells #[.bool p_g,.slice p_o p_n p_c,.int .i64 p_e] 33) (.cells #[.bool q_g,.slice q_o q_n q_c,.int .i64 q_e] 33) (.cells #[.bool false,.slice none 0 0,.int .i64 0] 33)
 go_enter Tryz.func32,Tryz.ntmps32
 go_wp2_with fail
 generalize ((w.alloc (.cells #[.bool p_g,.slice p_o p_n p_c,.int .i64 p_e] 33)).alloc (.cells #[.bool q_g,.slice q_o q_n q_c,.int .i64 q_e] 33)).alloc (.cells #[.bool false,.slice none 0 0,.int .i64 0] 33)=x0 at r_k hb0 ⊢
 have hs0:=(aGe r_k).1
 refine(CS _ hb0).mono ?_
 rintro _ y1 ⟨v,V,rfl,h1,hE,hBd⟩
 obtain⟨n_g,n_o,n_n,n_c,n_e,rfl⟩:=aT h1
 have hw:=h1.below
 have r_k:=(hw.block _ (aGe r_k).1).trans r_k
 have k0:=af r_k 0 rfl
 have k1:=af r_k 1 rfl
 have k2:=af r_k 2 rfl
 have z0:=av r_k 0
 have z1:=av r_k 1
 have z2:=av r_k 2
 go_wp2
 refine bodyPost_ret (v:=.agg #[.bool n_g,.slice n_o n_n n_c,.int .i64 n_e]) (by simp[results,Tryz.results32,go_sem,k0,k1,k2]) rfl ⟨_,V,rfl,?_,hE,hBd⟩
 exact bM (g:=w.heap.size+2) h1 hb0 (by omega) hs0 _ _ _
end Go.Proofs.YtcklaogdjpbagaaGreatDoor
