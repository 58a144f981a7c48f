/- Parts of the proof. -/
import Derived.Test.YtjjihmnbdeeedaaGreatDoorMa20
import Derived.Deep.RegionHeld3
import Derived.Test.YtjjihmnbdeeedaaGreatDoorMa13
import Derived.Test.YtjjihmnbdeeedaaGreatDoorMa5
import Derived.Test.YtjjihmnbdeeedaaGreatDoorMa4
import Derived.Test.YtjjihmnbdeeedaaGreatDoorMa1
set_option maxRecDepth 100000
set_option maxHeartbeats 8000000
set_option linter.unusedVariables false
set_option linter.unusedSimpArgs false
namespace Go.Proofs.YtjjihmnbdeeedaaGreatDoor
open Go Go.Proofs.Tryz Go.RowKit Go.Proofs.YtjjihmnbdeeedaaGreatDoor.M
theorem Fr {ax ay bx by' cx cy:Int} (rax:ag ax) (ray:ag ay) (rbx:ag bx) (rby:ag by') (rcx:ag cx) (rcy:ag cy) (hT:nG ax ay bx by' cx cy=true) (w:World) :
    Calls prog 20 #[.agg #[G6 ax,G6 ay],.agg #[G6 bx,G6 by'],.agg #[G6 cx,G6 cy]] w fun r w'=>r=.returned (.agg #[G6 (bH (gG ax ay bx by' cx cy) 0),G6 (je ax ay bx by' cx cy)])∧Below w.heap.size w w':=by
  obtain⟨hax,hay,hbx,hby,hcx,hcy⟩:=LT rax ray rbx rby rcx rcy hT
  obtain⟨⟨fS,fD,fM⟩,hsg⟩:=uW hax hay hbx hby hcx hcy rfl rfl rfl rfl
  have fP:=tM hax hbx hcx
  have fQ:=tM hay hby hcy
  have CT:Hid (∀ W g,W.heap[g]?=some (.cells #[G6 ax,G6 ay,G6 bx,G6 by',G6 cx,G6 cy] 33)->Calls prog 45 #[.slice (some ⟨g,0,none⟩) 3 3] W fun x w'=>x=.returned (.bool true)∧Below W.heap.size W w'):=fun W g h=>by
    have:=vm _ _ _ _ _ W (pC W h) (iS rax rbx rcx) (iS ray rby rcy)
    rw[mG bk,show(bk ax ay&&bk bx by'&&bk cx cy)=true from hT] at this
    exact this
  have D1:Hid (∀ W,Calls prog 52 #[G6 ax,G6 bx] W fun x w'=>x=.returned (G6 (aF ax (neg bx)))∧Below W.heap.size W w'):=fun W=>pk _ _ rax rbx W
  have D2:Hid (∀ W,Calls prog 52 #[G6 cx,G6 bx] W fun x w'=>x=.returned (G6 (aF cx (neg bx)))∧Below W.heap.size W w'):=fun W=>pk _ _ rcx rbx W
  have D3:Hid (∀ W,Calls prog 52 #[G6 ay,G6 by'] W fun x w'=>x=.returned (G6 (aF ay (neg by')))∧Below W.heap.size W w'):=fun W=>pk _ _ ray rby W
  have D4:Hid (∀ W,Calls prog 52 #[G6 cy,G6 by'] W fun x w'=>x=.returned (G6 (aF cy (neg by')))∧Below W.heap.size W w'):=fun W=>pk _ _ rcy rby W
  have P1:Hid (∀ W,Calls prog 51 #[G6 (aF ax (neg bx)),G6 (aF cx (neg bx))] W fun x w'=>x=.returned (G6 (aP ax bx cx))∧Below W.heap.size W w'):=fun W=>tr _ _ (hax.diff hbx).1.r (hcx.diff hbx).1.r W
  have P2:Hid (∀ W,Calls prog 51 #[G6 (aF ay (neg by')),G6 (aF cy (neg by'))] W fun x w'=>x=.returned (G6 (aP ay by' cy))∧Below W.heap.size W w'):=fun W=>tr _ _ (hay.diff hby).1.r (hcy.diff hby).1.r W
  have SD:Hid (∀ W,Calls prog 53 #[G6 (aP ax bx cx),G6 (aP ay by' cy)] W fun x w'=>x=.returned (G6 (jG ax ay bx by' cx cy))∧Below W.heap.size W w'):=fun W=>BE _ _ fP.r fQ.r W
  have SS:Hid (∀ W,Calls prog 53 #[G6 (rg (aP ax bx cx)),G6 (rg (aP ay by' cy))] W fun x w'=>x=.returned (G6 (mf ax ay bx by' cx cy))∧Below W.heap.size W w'):=fun W=>BE _ _ fP.abs.1.r fQ.abs.1.r W
  have PM:Hid (∀ W,Calls prog 51 #[G6 (4386506037058863104),G6 (mf ax ay bx by' cx cy)] W fun x w'=>x=.returned (G6 (aC jb (mf ax ay bx by' cx cy)))∧Below W.heap.size W w'):=fun W=>tr _ _ qg fS.r W
  have A1:Hid (∀ W,Calls prog 55 #[G6 (aP ax bx cx)] W fun e w'=>e=.returned (G6 (rg (aP ax bx cx)))∧w'=W):=fun W=>wv fP.r W
  have A2:Hid (∀ W,Calls prog 55 #[G6 (aP ay by' cy)] W fun e w'=>e=.returned (G6 (rg (aP ay by' cy)))∧w'=W):=fun W=>wv fQ.r W
  have A3:Hid (∀ W,Calls prog 55 #[G6 (jG ax ay bx by' cx cy)] W fun e w'=>e=.returned (G6 (rg (jG ax ay bx by' cx cy)))∧w'=W):=fun W=>wv fD.r W
  have LE:Hid (∀ W,Calls prog 54 #[G6 (aC jb (mf ax ay bx by' cx cy)),G6 (rg (jG ax ay bx by' cx cy))] W fun e w'=>e=.returned (.bool (decide (au (aC jb (mf ax ay bx by' cx cy))<rg (jG ax ay bx by' cx cy))))∧w'=W):=fun W=>by
    obtain⟨q1,q2⟩:=jN fD.r
    have:=NZ fM.r q1 W
    rw[lK q2] at this
    exact this
  have VL:Hid (∀ W,Calls prog 56 #[G6 (jG ax ay bx by' cx cy)] W fun e w'=>e=.returned (G6 (kV (jG ax ay bx by' cx cy)))∧w'=W):=fun W=>Qa fD.r W
  have EX:Hid (∀ W,Calls prog 50 #[.agg #[G6 ax,G6 ay],.agg #[G6 bx,G6 by'],.agg #[G6 cx,G6 cy]] W fun r w'=>r=.returned (G6 (bH (gG ax ay bx by' cx cy) 0))∧Below W.heap.size W w'):=fun W=>BB rax ray rbx rby rcx rcy hax.2.1 hay.2.1 hbx.2.1 hby.2.1 hcx.2.1 hcy.2.1 W
  have hst:Hid (je ax ay bx by' cx cy=if au (aC jb (mf ax ay bx by' cx cy))<rg (jG ax ay bx by' cx cy) then 1 else 4):=by
    show je ax ay bx by' cx cy=_
    unfold je;rw[hT];rfl
  have hsgn:Hid (au (aC jb (mf ax ay bx by' cx cy))<rg (jG ax ay bx by' cx cy)->kV (jG ax ay bx by' cx cy)=bH (gG ax ay bx by' cx cy) 0):=fun hc1=>by
    obtain⟨r1,r2⟩:=hsg (DR fM.r fD.r hc1)
    rw[show kV (jG ax ay bx by' cx cy)=bH (iV (aF (aP ax bx cx) (aP ay by' cy))) 0 from Ix fD.r]
    exact(xp r1 r2).symm
  clear rax ray rbx rby rcx rcy hT hax hay hbx hby hcx hcy fS fD fM hsg fP fQ
  generalize je ax ay bx by' cx cy=st at *
  generalize bH (gG ax ay bx by' cx cy) 0=sx at *
  generalize kV (jG ax ay bx by' cx cy)=sd at *
  generalize hcc:(decide (au (aC jb (mf ax ay bx by' cx cy))<rg (jG ax ay bx by' cx cy)))=cc at *
  have hst2:Hid (st=if cc then 1 else 4):=by
    show st=_
    rw[hst.out,<- hcc]
    by_cases c:au (aC jb (mf ax ay bx by' cx cy))<rg (jG ax ay bx by' cx cy)
    · rw[if_pos c,decide_eq_true c];rfl
    · rw[if_neg c,decide_eq_false c];rfl
  have hsg2:Hid (cc=true->sd=sx):=fun h=>hsgn.out (of_decide_eq_true (hcc.trans h))
  clear hst hsgn hcc
  generalize aC jb (mf ax ay bx by' cx cy)=M at *
  generalize mf ax ay bx by' cx cy=S at *
  generalize rg (jG ax ay bx by' cx cy)=RD at *
  generalize jG ax ay bx by' cx cy=D at *
  generalize rg (aP ax bx cx)=RP at *
  generalize rg (aP ay by' cy)=RQ at *
  generalize aP ax bx cx=P at *
  generalize aP ay by' cy=Q at *
  generalize aF ax (neg bx)=u1 at *
  generalize aF cx (neg bx)=u2 at *
  generalize aF ay (neg by')=u3 at *
  generalize aF cy (neg by')=u4 at *
  obtain⟨hb0,a_k,b_k,c_k,r_k,hsz0⟩:=LG w (.cells #[G6 ax,G6 ay] 33) (.cells #[G6 bx,G6 by'] 33) (.cells #[G6 cx,G6 cy] 33) (.cells #[G6 0,G6 0] 28)
  have hsz:Hid _:=aK hsz0
  clear hsz0
  have f_a0:=ae a_k 0 rfl
  have f_a1:=ae a_k 1 rfl
  have f_b0:=ae b_k 0 rfl
  have f_b1:=ae b_k 1 rfl
  have f_c0:=ae c_k 0 rfl
  have f_c1:=ae c_k 1 rfl
  go_enter func20,ntmps20
  go_wp2_with fail
  clear f_a0 f_a1 f_b0 f_b1 f_c0 f_c1
  generalize ((((w.alloc (.cells #[G6 ax,G6 ay] 33)).alloc (.cells #[G6 bx,G6 by'] 33)).alloc (.cells #[G6 cx,G6 cy] 33)).alloc (.cells #[G6 0,G6 0] 28))=x0 at hb0 a_k b_k c_k r_k hsz ⊢
  refine(CT.out _ _ (aE _ hsz.out.symm)).mono ?_
  rintro _ y1 ⟨rfl,hw1⟩
  replace a_k:=aj hw1 (am (.cells #[G6 ax,G6 ay,G6 bx,G6 by',G6 cx,G6 cy] 33) a_k)
  replace b_k:=aj hw1 (am (.cells #[G6 ax,G6 ay,G6 bx,G6 by',G6 cx,G6 cy] 33) b_k)
  replace c_k:=aj hw1 (am (.cells #[G6 ax,G6 ay,G6 bx,G6 by',G6 cx,G6 cy] 33) c_k)
  replace r_k:=aj hw1 (am (.cells #[G6 ax,G6 ay,G6 bx,G6 by',G6 cx,G6 cy] 33) r_k)
  replace hb0:=ac (ac hb0 (af x0 (.cells #[G6 ax,G6 ay,G6 bx,G6 by',G6 cx,G6 cy] 33))) hw1
  clear hsz
  go_wp2_with fail
  have KK2:∀ W,Below y1.heap.size y1 W->W.cell? ⟨w.heap.size,0,none⟩=some (G6 ax)∧W.cell? ⟨w.heap.size+1,0,none⟩=some (G6 bx)∧W.cell? ⟨w.heap.size+2,0,none⟩=some (G6 cx):=fun W hb=>⟨ar (ae a_k 0 rfl) hb,ar (ae b_k 0 rfl) hb,ar (ae c_k 0 rfl) hb⟩
  have hC2_0:=(ap y1).drew
  have hs2_0:=(ap y1).drew
  have hT2_0:Below w.heap.size w y1.drew:=hb0.drew
  go_region_held3 (fun W=>W.cell? ⟨w.heap.size,0,none⟩=some (G6 ax)∧W.cell? ⟨w.heap.size+1,0,none⟩=some (G6 bx)∧W.cell? ⟨w.heap.size+2,0,none⟩=some (G6 cx))
    (with_reducible first|assumption|exact KK2 _ hC2_0|exact KK2 _ hC2_1|exact KK2 _ hC2_2|exact KK2 _ hC2_3|fail)
    (first
      | (go_at_call 51;have _t:=hs2_2;refine(P1.out _).mono ?_;rintro _ y2_3 ⟨rfl,hq2_3⟩;have hs2_3:Below y2_2.heap.size y2_2 y2_3:=(by with_reducible first|exact hq2_3|exact ac (af _ _) hq2_3|exact ac (aS _ _) hq2_3);have hT2_3:=ac hT2_2 hs2_3;have hC2_3:=ac hC2_2 hs2_3)
      | (go_at_call 52;have _t:=hs2_1;refine(D2.out _).mono ?_;rintro _ y2_2 ⟨rfl,hq2_2⟩;have hs2_2:Below y2_1.heap.size y2_1 y2_2:=(by with_reducible first|exact hq2_2|exact ac (af _ _) hq2_2|exact ac (aS _ _) hq2_2);have hT2_2:=ac hT2_1 hs2_2;have hC2_2:=ac hC2_1 hs2_2)
      | (go_at_call 52; refine (D1.out _).mono ?_; rintro _ y2_1 ⟨rfl,hq2_1⟩; have hs2_1:Below y1.drew.heap.size y1.drew y2_1:=(by with_reducible first | exact hq2_1 | exact ac (af _ _) hq2_1 | exact ac (aS _ _) hq2_1); have hT2_1:=ac hT2_0 hs2_1; have hC2_1:=ac hC2_0 hs2_1))
  have hw2:=ac (ac (ac (hs2_0) hs2_1) hs2_2) hs2_3
  have a_k:=(hw2.block _ (aGe a_k).1).trans a_k
  have b_k:=(hw2.block _ (aGe b_k).1).trans b_k
  have c_k:=(hw2.block _ (aGe c_k).1).trans c_k
  have r_k:=(hw2.block _ (aGe r_k).1).trans r_k
  have hb2:=ac hb0 hw2
  go_wp2_with fail
  have KK3:∀ W,Below y2_3.heap.size y2_3 W->W.cell? ⟨w.heap.size,1,none⟩=some (G6 ay)∧W.cell? ⟨w.heap.size+1,1,none⟩=some (G6 by')∧W.cell? ⟨w.heap.size+2,1,none⟩=some (G6 cy):=fun W hb=>⟨ar (ae a_k 1 rfl) hb,ar (ae b_k 1 rfl) hb,ar (ae c_k 1 rfl) hb⟩
  have hC3_0:=(ap y2_3).drew
  have hs3_0:=(ap y2_3).drew
  have hT3_0:Below w.heap.size w y2_3.drew:=hb2.drew
  go_region_held3 (fun W=>W.cell? ⟨w.heap.size,1,none⟩=some (G6 ay)∧W.cell? ⟨w.heap.size+1,1,none⟩=some (G6 by')∧W.cell? ⟨w.heap.size+2,1,none⟩=some (G6 cy))
    (with_reducible first|assumption|exact KK3 _ hC3_0|exact KK3 _ hC3_1|exact KK3 _ hC3_2|exact KK3 _ hC3_3|fail)
    (first
      | (go_at_call 51;have _t:=hs3_2;refine(P2.out _).mono ?_;rintro _ y3_3 ⟨rfl,hq3_3⟩;have hs3_3:Below y3_2.heap.size y3_2 y3_3:=(by with_reducible first|exact hq3_3|exact ac (af _ _) hq3_3|exact ac (aS _ _) hq3_3);have hT3_3:=ac hT3_2 hs3_3;have hC3_3:=ac hC3_2 hs3_3)
      | (go_at_call 52;have _t:=hs3_1;refine(D4.out _).mono ?_;rintro _ y3_2 ⟨rfl,hq3_2⟩;have hs3_2:Below y3_1.heap.size y3_1 y3_2:=(by with_reducible first|exact hq3_2|exact ac (af _ _) hq3_2|exact ac (aS _ _) hq3_2);have hT3_2:=ac hT3_1 hs3_2;have hC3_2:=ac hC3_1 hs3_2)
      | (go_at_call 52; refine (D3.out _).mono ?_; rintro _ y3_1 ⟨rfl,hq3_1⟩; have hs3_1:Below y2_3.drew.heap.size y2_3.drew y3_1:=(by with_reducible first | exact hq3_1 | exact ac (af _ _) hq3_1 | exact ac (aS _ _) hq3_1); have hT3_1:=ac hT3_0 hs3_1; have hC3_1:=ac hC3_0 hs3_1))
  have hw3:=ac (ac (ac (hs3_0) hs3_1) hs3_2) hs3_3
  have a_k:=(hw3.block _ (aGe a_k).1).trans a_k
  have b_k:=(hw3.block _ (aGe b_k).1).trans b_k
  have c_k:=(hw3.block _ (aGe c_k).1).trans c_k
  have r_k:=(hw3.block _ (aGe r_k).1).trans r_k
  have hb3:=ac hb2 hw3
  go_wp2_with fail
  refine(SD.out _).mono ?_
  rintro _ y4 ⟨rfl,hw4⟩
  have a_k:=(hw4.block _ (aGe a_k).1).trans a_k
  have b_k:=(hw4.block _ (aGe b_k).1).trans b_k
  have c_k:=(hw4.block _ (aGe c_k).1).trans c_k
  have r_k:=(hw4.block _ (aGe r_k).1).trans r_k
  have hb4:=ac hb3 hw4
  go_wp2_with fail
  refine(A1.out _).mono ?_
  rintro _ wz ⟨rfl,hwz⟩
  replace hwz:=hwz.symm
  subst hwz
  go_wp2_with fail
  refine(A2.out _).mono ?_
  rintro _ wz ⟨rfl,hwz⟩
  replace hwz:=hwz.symm
  subst hwz
  go_wp2_with fail
  refine(SS.out _).mono ?_
  rintro _ y5 ⟨rfl,hw5⟩
  have a_k:=(hw5.block _ (aGe a_k).1).trans a_k
  have b_k:=(hw5.block _ (aGe b_k).1).trans b_k
  have c_k:=(hw5.block _ (aGe c_k).1).trans c_k
  have r_k:=(hw5.block _ (aGe r_k).1).trans r_k
  have hb5:=ac hb4 hw5
  go_wp2_with fail
  refine(PM.out _).mono ?_
  rintro _ y6 ⟨rfl,hw6⟩
  have a_k:=(hw6.block _ (aGe a_k).1).trans a_k
  have b_k:=(hw6.block _ (aGe b_k).1).trans b_k
  have c_k:=(hw6.block _ (aGe c_k).1).trans c_k
  have r_k:=(hw6.block _ (aGe r_k).1).trans r_k
  have hb6:=ac hb5 hw6
  go_wp2_with fail
  refine(A3.out _).mono ?_
  rintro _ wz ⟨rfl,hwz⟩
  replace hwz:=hwz.symm
  subst hwz
  go_wp2_with fail
  refine(LE.out _).mono ?_
  rintro _ wz ⟨rfl,hwz⟩
  replace hwz:=hwz.symm
  subst hwz
  cases cc
  · have e1:st=4:=hst2.out
    subst e1
    have f_a0:=ae a_k 0 rfl
    have f_a1:=ae a_k 1 rfl
    have f_b0:=ae b_k 0 rfl
    have f_b1:=ae b_k 1 rfl
    have f_c0:=ae c_k 0 rfl
    have f_c1:=ae c_k 1 rfl
    go_wp2_with fail
    refine(EX.out _).mono ?_
    rintro _ ye ⟨rfl,hwe⟩
    replace r_k:=aj hwe r_k
    have hbe:=ac hb6 hwe
    have k0:=ae r_k 0 rfl
    have k1:=ae r_k 1 rfl
    have z0:=ah r_k 0
    have z1:=ah r_k 1
    go_wp2
    exact bodyPost_ret (v:=.agg #[G6 sx,G6 4]) (by simp[results,results20,go_sem,k0,k1]) rfl ⟨rfl,((hbe.setCell (p:=⟨w.heap.size+3,0,none⟩) (show w.heap.size<=w.heap.size+3 by omega) _).setCell (p:=⟨w.heap.size+3,1,none⟩) (show w.heap.size<=w.heap.size+3 by omega) _)⟩
  · have e1:st=1:=hst2.out
    have e2:=hsg2.out rfl
    subst e1 e2
    go_wp2_with fail
    refine(VL.out _).mono ?_
    rintro _ wz ⟨rfl,hwz⟩
    replace hwz:=hwz.symm
    subst hwz
    have k0:=ae r_k 0 rfl
    have k1:=ae r_k 1 rfl
    have z0:=ah r_k 0
    have z1:=ah r_k 1
    go_wp2
    exact bodyPost_ret (v:=.agg #[G6 sd,G6 1]) (by simp[results,results20,go_sem,k0,k1]) rfl ⟨rfl,((hb6.setCell (p:=⟨w.heap.size+3,0,none⟩) (show w.heap.size<=w.heap.size+3 by omega) _).setCell (p:=⟨w.heap.size+3,1,none⟩) (show w.heap.size<=w.heap.size+3 by omega) _)⟩
theorem Qb {W0:World} {A0 A1 A2 A3:En} {g0:Bool} {o0:Option Addr} {n0 c0:Nat} {e0:Int} {g1:Bool} {o1:Option Addr} {n1 c1:Nat} {e1:Int} {g2:Bool} {o2:Option Addr} {n2 c2:Nat} {e2:Int} {g3:Bool} {o3:Option Addr} {n3 c3:Nat} {e3:Int} (d0:cB 0 W0 A0.v (.agg #[.bool g0,.slice o0 n0 c0,G6 e0])) (d1:cB 0 W0 A1.v (.agg #[.bool g1,.slice o1 n1 c1,G6 e1])) (d2:cB 0 W0 A2.v (.agg #[.bool g2,.slice o2 n2 c2,G6 e2])) (d3:cB 0 W0 A3.v (.agg #[.bool g3,.slice o3 n3 c3,G6 e3])) {K:Nat} (hK:K<=28000) (b0:Bd K A0.v) (b1:Bd K A1.v) (b2:Bd K A2.v) (b3:Bd K A3.v) (k0:A0.ok) (k1:A1.ok) (k2:A2.ok) (k3:A3.ok) :
    Calls prog 109 #[.slice (some ⟨W0.heap.size,0,none⟩) 4 4] (W0.alloc (.cells #[G6 A0.i,.bool g0,.slice o0 n0 c0,G6 e0,G6 A1.i,.bool g1,.slice o1 n1 c1,G6 e1,G6 A2.i,.bool g2,.slice o2 n2 c2,G6 e2,G6 A3.i,.bool g3,.slice o3 n3 c3,G6 e3] 137)) fun x w'=>∃ v u,x=.returned (.tuple #[v,u])∧EA w' v (fT (fT (fT A0 A1) A2) A3)∧EA w' u (fU (fU (fU A0 A1) A2) A3)∧Below (W0.alloc (.cells #[G6 A0.i,.bool g0,.slice o0 n0 c0,G6 e0,G6 A1.i,.bool g1,.slice o1 n1 c1,G6 e1,G6 A2.i,.bool g2,.slice o2 n2 c2,G6 e2,G6 A3.i,.bool g3,.slice o3 n3 c3,G6 e3] 137)).heap.size (W0.alloc (.cells #[G6 A0.i,.bool g0,.slice o0 n0 c0,G6 e0,G6 A1.i,.bool g1,.slice o1 n1 c1,G6 e1,G6 A2.i,.bool g2,.slice o2 n2 c2,G6 e2,G6 A3.i,.bool g3,.slice o3 n3 c3,G6 e3] 137)) w':=by
  have hb:=af W0 (.cells #[G6 A0.i,.bool g0,.slice o0 n0 c0,G6 e0,G6 A1.i,.bool g1,.slice o1 n1 c1,G6 e1,G6 A2.i,.bool g2,.slice o2 n2 c2,G6 e2,G6 A3.i,.bool g3,.slice o3 n3 c3,G6 e3] 137)
  have hk0:=aD W0 (.cells #[G6 A0.i,.bool g0,.slice o0 n0 c0,G6 e0,G6 A1.i,.bool g1,.slice o1 n1 c1,G6 e1,G6 A2.i,.bool g2,.slice o2 n2 c2,G6 e2,G6 A3.i,.bool g3,.slice o3 n3 c3,G6 e3] 137)
  have hs:W0.heap.size<(W0.alloc (.cells #[G6 A0.i,.bool g0,.slice o0 n0 c0,G6 e0,G6 A1.i,.bool g1,.slice o1 n1 c1,G6 e1,G6 A2.i,.bool g2,.slice o2 n2 c2,G6 e2,G6 A3.i,.bool g3,.slice o3 n3 c3,G6 e3] 137)).heap.size:=by rw[aw];omega
  have hE:xr (W0.alloc (.cells #[G6 A0.i,.bool g0,.slice o0 n0 c0,G6 e0,G6 A1.i,.bool g1,.slice o1 n1 c1,G6 e1,G6 A2.i,.bool g2,.slice o2 n2 c2,G6 e2,G6 A3.i,.bool g3,.slice o3 n3 c3,G6 e3] 137)) W0.heap.size 0 4 (fun k=>match k with | 0=>(⟨A0.i,g0,o0,n0,c0,e0⟩:oM) | 1=>(⟨A1.i,g1,o1,n1,c1,e1⟩:oM) | 2=>(⟨A2.i,g2,o2,n2,c2,e2⟩:oM) | _=>(⟨A3.i,g3,o3,n3,c3,e3⟩:oM)) (fun k=>match k with | 0=>A0 | 1=>A1 | 2=>A2 | _=>A3):=⟨hs,fun k hk=>match k,hk with
    | 0,_=>⟨ae hk0 0 rfl,ae hk0 1 rfl,ae hk0 2 rfl,ae hk0 3 rfl⟩
    | 1,_=>⟨ae hk0 4 rfl,ae hk0 5 rfl,ae hk0 6 rfl,ae hk0 7 rfl⟩
    | 2,_=>⟨ae hk0 8 rfl,ae hk0 9 rfl,ae hk0 10 rfl,ae hk0 11 rfl⟩
    | 3,_=>⟨ae hk0 12 rfl,ae hk0 13 rfl,ae hk0 14 rfl,ae hk0 15 rfl⟩,fun k hk=>match k,hk with
    | 0,_=>⟨_,_,_,_,_,rfl,d0.keeps hb⟩
    | 1,_=>⟨_,_,_,_,_,rfl,d1.keeps hb⟩
    | 2,_=>⟨_,_,_,_,_,rfl,d2.keeps hb⟩
    | 3,_=>⟨_,_,_,_,_,rfl,d3.keeps hb⟩⟩
  exact NW hE (by omega) (by omega) (by omega) hK (fun k hk=>match k,hk with
    | 0,_=>b0
    | 1,_=>b1
    | 2,_=>b2
    | 3,_=>b3) (fun k hk=>match k,hk with
    | 0,_=>k0
    | 1,_=>k1
    | 2,_=>k2
    | 3,_=>k3)
theorem DZ {p q u v g o:Nat} {x0 x1 x2 x3 x4 x5 x6 x7 x8 x9 x10 x11 x12 x13 x14 x15 val:Value} {W:World} (hp:p≠g) (hq:q≠g) (hu:u≠g) (hv:v≠g) (h:W.cell? ⟨p,0,none⟩=some x0∧W.cell? ⟨p,1,none⟩=some x1∧W.cell? ⟨p,2,none⟩=some x2∧W.cell? ⟨p,3,none⟩=some x3∧W.cell? ⟨q,0,none⟩=some x4∧W.cell? ⟨q,1,none⟩=some x5∧W.cell? ⟨q,2,none⟩=some x6∧W.cell? ⟨q,3,none⟩=some x7∧W.cell? ⟨u,0,none⟩=some x8∧W.cell? ⟨u,1,none⟩=some x9∧W.cell? ⟨u,2,none⟩=some x10∧W.cell? ⟨u,3,none⟩=some x11∧W.cell? ⟨v,0,none⟩=some x12∧W.cell? ⟨v,1,none⟩=some x13∧W.cell? ⟨v,2,none⟩=some x14∧W.cell? ⟨v,3,none⟩=some x15) :
  (W.setCell ⟨g,o,none⟩ val).cell? ⟨p,0,none⟩=some x0∧(W.setCell ⟨g,o,none⟩ val).cell? ⟨p,1,none⟩=some x1∧(W.setCell ⟨g,o,none⟩ val).cell? ⟨p,2,none⟩=some x2∧(W.setCell ⟨g,o,none⟩ val).cell? ⟨p,3,none⟩=some x3∧(W.setCell ⟨g,o,none⟩ val).cell? ⟨q,0,none⟩=some x4∧(W.setCell ⟨g,o,none⟩ val).cell? ⟨q,1,none⟩=some x5∧(W.setCell ⟨g,o,none⟩ val).cell? ⟨q,2,none⟩=some x6∧(W.setCell ⟨g,o,none⟩ val).cell? ⟨q,3,none⟩=some x7∧(W.setCell ⟨g,o,none⟩ val).cell? ⟨u,0,none⟩=some x8∧(W.setCell ⟨g,o,none⟩ val).cell? ⟨u,1,none⟩=some x9∧(W.setCell ⟨g,o,none⟩ val).cell? ⟨u,2,none⟩=some x10∧(W.setCell ⟨g,o,none⟩ val).cell? ⟨u,3,none⟩=some x11∧(W.setCell ⟨g,o,none⟩ val).cell? ⟨v,0,none⟩=some x12∧(W.setCell ⟨g,o,none⟩ val).cell? ⟨v,1,none⟩=some x13∧(W.setCell ⟨g,o,none⟩ val).cell? ⟨v,2,none⟩=some x14∧(W.setCell ⟨g,o,none⟩ val).cell? ⟨v,3,none⟩=some x15:=by
 have hp':∀ k:Nat,(W.setCell ⟨g,o,none⟩ val).cell? ⟨p,k,none⟩=W.cell? ⟨p,k,none⟩:=fun k=>World.cell?_setCell_far _ _ _ _ (Ne.symm hp)
 have hq':∀ k:Nat,(W.setCell ⟨g,o,none⟩ val).cell? ⟨q,k,none⟩=W.cell? ⟨q,k,none⟩:=fun k=>World.cell?_setCell_far _ _ _ _ (Ne.symm hq)
 have hu':∀ k:Nat,(W.setCell ⟨g,o,none⟩ val).cell? ⟨u,k,none⟩=W.cell? ⟨u,k,none⟩:=fun k=>World.cell?_setCell_far _ _ _ _ (Ne.symm hu)
 have hv':∀ k:Nat,(W.setCell ⟨g,o,none⟩ val).cell? ⟨v,k,none⟩=W.cell? ⟨v,k,none⟩:=fun k=>World.cell?_setCell_far _ _ _ _ (Ne.symm hv)
 rw[hp',hp',hp',hp',hq',hq',hq',hq',hu',hu',hu',hu',hv',hv',hv',hv']
 exact h
theorem gu {p q:Int} (hp:nn p) (hq:nn q):Bd 8000 (aJ (aA p) (aA q)).v:=by
 by_cases i:(aA p).i=0
 ·by_cases j:(aA q).i=0
  ·rw[fI i j]
   have fp:¬ rg p=9218868437227405312:=fun k=>by rw[ie k] at i;exact uV k i
   have fq:¬ rg q=9218868437227405312:=fun k=>by rw[ie k] at j;exact uV k j
   rw[gA fp,gA fq]
   obtain⟨_,_,_,_,hC⟩:=mT hp.1 hq.1 (fh hp fp) (fh hq fq)
   show Bd 8000 (eO (aq p) (aq q))
   rw[<- nX hC]
   exact(iN p).mul (iN q) hC (by omega)
  ·rw[jD j];exact La.up (by omega) (by omega)
 ·rw[fW i];exact La.up (by omega) (by omega)
theorem Ob (a b c d:En):(∃ x y,(x=a∨x=b)∧(y=c∨y=d)∧gD a b c d=aJ x y)∧(∃ x y,(x=a∨x=b)∧(y=c∨y=d)∧gF a b c d=aJ x y):=by
 refine⟨?_,?_⟩
 ·unfold gD
  rcases (jJ (fT (fT (aJ a c) (aJ a d)) (aJ b c)) (aJ b d)).2.2 with q|q
  ·rw[q]
   rcases (jJ (fT (aJ a c) (aJ a d)) (aJ b c)).2.2 with q|q
   ·rw[q]
    rcases (jJ (aJ a c) (aJ a d)).2.2 with q|q
    ·exact⟨a,c,.inl rfl,.inl rfl,q⟩
    ·exact⟨a,d,.inl rfl,.inr rfl,q⟩
   ·exact⟨b,c,.inr rfl,.inl rfl,q⟩
  ·exact⟨b,d,.inr rfl,.inr rfl,q⟩
 ·unfold gF
  rcases (jK (fU (fU (aJ a c) (aJ a d)) (aJ b c)) (aJ b d)).2.2 with q|q
  ·rw[q]
   rcases (jK (fU (aJ a c) (aJ a d)) (aJ b c)).2.2 with q|q
   ·rw[q]
    rcases (jK (aJ a c) (aJ a d)).2.2 with q|q
    ·exact⟨a,c,.inl rfl,.inl rfl,q⟩
    ·exact⟨a,d,.inl rfl,.inr rfl,q⟩
   ·exact⟨b,c,.inr rfl,.inl rfl,q⟩
  ·exact⟨b,d,.inr rfl,.inr rfl,q⟩
theorem Ma {a b c d:Int} (na:nn a) (nb:nn b) (nc:nn c) (nd:nn d):Bd 8000 (gD (aA a) (aA b) (aA c) (aA d)).v∧Bd 8000 (gF (aA a) (aA b) (aA c) (aA d)).v:=by
 obtain⟨⟨x,y,hx,hy,e1⟩,⟨x',y',hx',hy',e2⟩⟩:=Ob (aA a) (aA b) (aA c) (aA d)
 refine⟨?_,?_⟩
 ·rw[e1]
  rcases hx with rfl|rfl<;>rcases hy with rfl|rfl
  ·exact gu na nc
  ·exact gu na nd
  ·exact gu nb nc
  ·exact gu nb nd
 ·rw[e2]
  rcases hx' with rfl|rfl<;>rcases hy' with rfl|rfl
  ·exact gu na nc
  ·exact gu na nd
  ·exact gu nb nc
  ·exact gu nb nd
theorem Ea {a b c d:Int} (na:nn a) (nb:nn b) (nc:nn c) (nd:nn d) (w:World) :
    Calls prog 47 #[.agg #[G6 a,G6 b],.agg #[G6 c,G6 d]] w fun e w'=>e=.returned (.agg #[G6 (cD (gD (aA a) (aA b) (aA c) (aA d))),G6 (cF (gF (aA a) (aA b) (aA c) (aA d)))])∧Below w.heap.size w w':=by
  have T:Hid (∀ (u v:Value) W,EA W u (gD (aA a) (aA b) (aA c) (aA d))->EA W v (gF (aA a) (aA b) (aA c) (aA d))->Calls prog 106 #[u,v] W fun r w'=>r=.returned (.agg #[G6 (cD (gD (aA a) (aA b) (aA c) (aA d))),G6 (cF (gF (aA a) (aA b) (aA c) (aA d)))])∧Below W.heap.size W w'):=fun u v W hu hv=>wu hu.ev hv.ev (fun _=>(Ma na nb nc nd).1.ok (by omega)) (fun _=>(Ma na nb nc nd).2.ok (by omega))
  have b1:=gu na nc
  have b2:=gu na nd
  have b3:=gu nb nc
  have b4:=gu nb nd
  have k1:=rJ (dT a) (dT c)
  have k2:=rJ (dT a) (dT d)
  have k3:=rJ (dT b) (dT c)
  have k4:=rJ (dT b) (dT d)
  unfold gD gF at T
  unfold gD gF
  generalize cD (fT (fT (fT (aJ (aA a) (aA c)) (aJ (aA a) (aA d))) (aJ (aA b) (aA c))) (aJ (aA b) (aA d)))=X at *
  generalize cF (fU (fU (fU (aJ (aA a) (aA c)) (aJ (aA a) (aA d))) (aJ (aA b) (aA c))) (aJ (aA b) (aA d)))=Y at *
  have hb:=ap w
  go_enter func47,ntmps47
  have s_k:(w.alloc (.cells #[G6 a,G6 b] 72)).heap[w.heap.size]?=some (.cells #[G6 a,G6 b] 72):=aE (.cells #[G6 a,G6 b] 72) (by simp only[aw])
  have hb:=ac hb (af w (.cells #[G6 a,G6 b] 72))
  have s_k:=am (.cells #[G6 c,G6 d] 72) s_k
  have t_k:((w.alloc (.cells #[G6 a,G6 b] 72)).alloc (.cells #[G6 c,G6 d] 72)).heap[w.heap.size+1]?=some (.cells #[G6 c,G6 d] 72):=aE (.cells #[G6 c,G6 d] 72) (by simp only[aw])
  have hb:=ac hb (af (w.alloc (.cells #[G6 a,G6 b] 72)) (.cells #[G6 c,G6 d] 72))
  have s_k:=am (.cells #[G6 0,G6 0] 72) s_k
  have t_k:=am (.cells #[G6 0,G6 0] 72) t_k
  have r_k:(((w.alloc (.cells #[G6 a,G6 b] 72)).alloc (.cells #[G6 c,G6 d] 72)).alloc (.cells #[G6 0,G6 0] 72)).heap[w.heap.size+1+1]?=some (.cells #[G6 0,G6 0] 72):=aE (.cells #[G6 0,G6 0] 72) (by simp only[aw])
  have hb:=ac hb (af ((w.alloc (.cells #[G6 a,G6 b] 72)).alloc (.cells #[G6 c,G6 d] 72)) (.cells #[G6 0,G6 0] 72))
  have f_s0:=ae s_k 0 rfl
  have f_s1:=ae s_k 1 rfl
  go_wp2_with fail
  clear f_s0 f_s1
  generalize (((w.alloc (.cells #[G6 a,G6 b] 72)).alloc (.cells #[G6 c,G6 d] 72)).alloc (.cells #[G6 0,G6 0] 72))=x1 at s_k t_k r_k hb ⊢
  refine(lZ na _).mono ?_
  rintro _ y2 ⟨z,rfl,E,hw⟩
  obtain⟨p_g,p_o,p_n,p_c,p_e,rfl,p_D⟩:=E
  have s_k:=aB hw s_k
  have t_k:=aB hw t_k
  have r_k:=aB hw r_k
  have hb:=ac hb hw
  have s_k:=am (.cells #[G6 (aA a).i,.bool p_g,.slice p_o p_n p_c,G6 p_e] 137) s_k
  have t_k:=am (.cells #[G6 (aA a).i,.bool p_g,.slice p_o p_n p_c,G6 p_e] 137) t_k
  have r_k:=am (.cells #[G6 (aA a).i,.bool p_g,.slice p_o p_n p_c,G6 p_e] 137) r_k
  have p_k:(y2.alloc (.cells #[G6 (aA a).i,.bool p_g,.slice p_o p_n p_c,G6 p_e] 137)).heap[y2.heap.size]?=some (.cells #[G6 (aA a).i,.bool p_g,.slice p_o p_n p_c,G6 p_e] 137):=aE (.cells #[G6 (aA a).i,.bool p_g,.slice p_o p_n p_c,G6 p_e] 137) (by simp only[aw])
  have p_D:=p_D.keeps (af y2 (.cells #[G6 (aA a).i,.bool p_g,.slice p_o p_n p_c,G6 p_e] 137))
  have hb:=ac hb (af y2 (.cells #[G6 (aA a).i,.bool p_g,.slice p_o p_n p_c,G6 p_e] 137))
  have f_s0:=ae s_k 0 rfl
  have f_s1:=ae s_k 1 rfl
  go_wp2_with fail
  clear f_s0 f_s1
  generalize (y2.alloc (.cells #[G6 (aA a).i,.bool p_g,.slice p_o p_n p_c,G6 p_e] 137))=x3 at s_k t_k r_k p_k p_D hb ⊢
  refine(lZ nb _).mono ?_
  rintro _ y4 ⟨z,rfl,E,hw⟩
  obtain⟨q_g,q_o,q_n,q_c,q_e,rfl,q_D⟩:=E
  have s_k:=aB hw s_k
  have t_k:=aB hw t_k
  have r_k:=aB hw r_k
  have p_k:=aB hw p_k
  have p_D:=p_D.keeps hw
  have hb:=ac hb hw
  have s_k:=am (.cells #[G6 (aA b).i,.bool q_g,.slice q_o q_n q_c,G6 q_e] 137) s_k
  have t_k:=am (.cells #[G6 (aA b).i,.bool q_g,.slice q_o q_n q_c,G6 q_e] 137) t_k
  have r_k:=am (.cells #[G6 (aA b).i,.bool q_g,.slice q_o q_n q_c,G6 q_e] 137) r_k
  have p_k:=am (.cells #[G6 (aA b).i,.bool q_g,.slice q_o q_n q_c,G6 q_e] 137) p_k
  have q_k:(y4.alloc (.cells #[G6 (aA b).i,.bool q_g,.slice q_o q_n q_c,G6 q_e] 137)).heap[y4.heap.size]?=some (.cells #[G6 (aA b).i,.bool q_g,.slice q_o q_n q_c,G6 q_e] 137):=aE (.cells #[G6 (aA b).i,.bool q_g,.slice q_o q_n q_c,G6 q_e] 137) (by simp only[aw])
  have p_D:=p_D.keeps (af y4 (.cells #[G6 (aA b).i,.bool q_g,.slice q_o q_n q_c,G6 q_e] 137))
  have q_D:=q_D.keeps (af y4 (.cells #[G6 (aA b).i,.bool q_g,.slice q_o q_n q_c,G6 q_e] 137))
  have hb:=ac hb (af y4 (.cells #[G6 (aA b).i,.bool q_g,.slice q_o q_n q_c,G6 q_e] 137))
  have f_t0:=ae t_k 0 rfl
  have f_t1:=ae t_k 1 rfl
  go_wp2_with fail
  clear f_t0 f_t1
  generalize (y4.alloc (.cells #[G6 (aA b).i,.bool q_g,.slice q_o q_n q_c,G6 q_e] 137))=x5 at s_k t_k r_k p_k q_k p_D q_D hb ⊢
  refine(lZ nc _).mono ?_
  rintro _ y6 ⟨z,rfl,E,hw⟩
  obtain⟨u_g,u_o,u_n,u_c,u_e,rfl,u_D⟩:=E
  have s_k:=aB hw s_k
  have t_k:=aB hw t_k
  have r_k:=aB hw r_k
  have p_k:=aB hw p_k
  have q_k:=aB hw q_k
  have p_D:=p_D.keeps hw
  have q_D:=q_D.keeps hw
  have hb:=ac hb hw
  have s_k:=am (.cells #[G6 (aA c).i,.bool u_g,.slice u_o u_n u_c,G6 u_e] 137) s_k
  have t_k:=am (.cells #[G6 (aA c).i,.bool u_g,.slice u_o u_n u_c,G6 u_e] 137) t_k
  have r_k:=am (.cells #[G6 (aA c).i,.bool u_g,.slice u_o u_n u_c,G6 u_e] 137) r_k
  have p_k:=am (.cells #[G6 (aA c).i,.bool u_g,.slice u_o u_n u_c,G6 u_e] 137) p_k
  have q_k:=am (.cells #[G6 (aA c).i,.bool u_g,.slice u_o u_n u_c,G6 u_e] 137) q_k
  have u_k:(y6.alloc (.cells #[G6 (aA c).i,.bool u_g,.slice u_o u_n u_c,G6 u_e] 137)).heap[y6.heap.size]?=some (.cells #[G6 (aA c).i,.bool u_g,.slice u_o u_n u_c,G6 u_e] 137):=aE (.cells #[G6 (aA c).i,.bool u_g,.slice u_o u_n u_c,G6 u_e] 137) (by simp only[aw])
  have p_D:=p_D.keeps (af y6 (.cells #[G6 (aA c).i,.bool u_g,.slice u_o u_n u_c,G6 u_e] 137))
  have q_D:=q_D.keeps (af y6 (.cells #[G6 (aA c).i,.bool u_g,.slice u_o u_n u_c,G6 u_e] 137))
  have u_D:=u_D.keeps (af y6 (.cells #[G6 (aA c).i,.bool u_g,.slice u_o u_n u_c,G6 u_e] 137))
  have hb:=ac hb (af y6 (.cells #[G6 (aA c).i,.bool u_g,.slice u_o u_n u_c,G6 u_e] 137))
  have f_t0:=ae t_k 0 rfl
  have f_t1:=ae t_k 1 rfl
  go_wp2_with fail
  clear f_t0 f_t1
  generalize (y6.alloc (.cells #[G6 (aA c).i,.bool u_g,.slice u_o u_n u_c,G6 u_e] 137))=x7 at s_k t_k r_k p_k q_k u_k p_D q_D u_D hb ⊢
  refine(lZ nd _).mono ?_
  rintro _ y8 ⟨z,rfl,E,hw⟩
  obtain⟨v_g,v_o,v_n,v_c,v_e,rfl,v_D⟩:=E
  have s_k:=aB hw s_k
  have t_k:=aB hw t_k
  have r_k:=aB hw r_k
  have p_k:=aB hw p_k
  have q_k:=aB hw q_k
  have u_k:=aB hw u_k
  have p_D:=p_D.keeps hw
  have q_D:=q_D.keeps hw
  have u_D:=u_D.keeps hw
  have hb:=ac hb hw
  have s_k:=am (.cells #[G6 (aA d).i,.bool v_g,.slice v_o v_n v_c,G6 v_e] 137) s_k
  have t_k:=am (.cells #[G6 (aA d).i,.bool v_g,.slice v_o v_n v_c,G6 v_e] 137) t_k
  have r_k:=am (.cells #[G6 (aA d).i,.bool v_g,.slice v_o v_n v_c,G6 v_e] 137) r_k
  have p_k:=am (.cells #[G6 (aA d).i,.bool v_g,.slice v_o v_n v_c,G6 v_e] 137) p_k
  have q_k:=am (.cells #[G6 (aA d).i,.bool v_g,.slice v_o v_n v_c,G6 v_e] 137) q_k
  have u_k:=am (.cells #[G6 (aA d).i,.bool v_g,.slice v_o v_n v_c,G6 v_e] 137) u_k
  have v_k:(y8.alloc (.cells #[G6 (aA d).i,.bool v_g,.slice v_o v_n v_c,G6 v_e] 137)).heap[y8.heap.size]?=some (.cells #[G6 (aA d).i,.bool v_g,.slice v_o v_n v_c,G6 v_e] 137):=aE (.cells #[G6 (aA d).i,.bool v_g,.slice v_o v_n v_c,G6 v_e] 137) (by simp only[aw])
  have p_D:=p_D.keeps (af y8 (.cells #[G6 (aA d).i,.bool v_g,.slice v_o v_n v_c,G6 v_e] 137))
  have q_D:=q_D.keeps (af y8 (.cells #[G6 (aA d).i,.bool v_g,.slice v_o v_n v_c,G6 v_e] 137))
  have u_D:=u_D.keeps (af y8 (.cells #[G6 (aA d).i,.bool v_g,.slice v_o v_n v_c,G6 v_e] 137))
  have v_D:=v_D.keeps (af y8 (.cells #[G6 (aA d).i,.bool v_g,.slice v_o v_n v_c,G6 v_e] 137))
  have hb:=ac hb (af y8 (.cells #[G6 (aA d).i,.bool v_g,.slice v_o v_n v_c,G6 v_e] 137))
  go_wp2_with fail
  generalize (y8.alloc (.cells #[G6 (aA d).i,.bool v_g,.slice v_o v_n v_c,G6 v_e] 137))=x9 at s_k t_k r_k p_k q_k u_k v_k p_D q_D u_D v_D hb ⊢
  have KK:∀ W,Below x9.heap.size x9 W->W.cell? ⟨y2.heap.size,0,none⟩=some (G6 (aA a).i)∧W.cell? ⟨y2.heap.size,1,none⟩=some (.bool p_g)∧W.cell? ⟨y2.heap.size,2,none⟩=some (.slice p_o p_n p_c)∧W.cell? ⟨y2.heap.size,3,none⟩=some (G6 p_e)∧W.cell? ⟨y4.heap.size,0,none⟩=some (G6 (aA b).i)∧W.cell? ⟨y4.heap.size,1,none⟩=some (.bool q_g)∧W.cell? ⟨y4.heap.size,2,none⟩=some (.slice q_o q_n q_c)∧W.cell? ⟨y4.heap.size,3,none⟩=some (G6 q_e)∧W.cell? ⟨y6.heap.size,0,none⟩=some (G6 (aA c).i)∧W.cell? ⟨y6.heap.size,1,none⟩=some (.bool u_g)∧W.cell? ⟨y6.heap.size,2,none⟩=some (.slice u_o u_n u_c)∧W.cell? ⟨y6.heap.size,3,none⟩=some (G6 u_e)∧W.cell? ⟨y8.heap.size,0,none⟩=some (G6 (aA d).i)∧W.cell? ⟨y8.heap.size,1,none⟩=some (.bool v_g)∧W.cell? ⟨y8.heap.size,2,none⟩=some (.slice v_o v_n v_c)∧W.cell? ⟨y8.heap.size,3,none⟩=some (G6 v_e):=fun W hW=>⟨ar (ae p_k 0 rfl) hW,ar (ae p_k 1 rfl) hW,ar (ae p_k 2 rfl) hW,ar (ae p_k 3 rfl) hW,ar (ae q_k 0 rfl) hW,ar (ae q_k 1 rfl) hW,ar (ae q_k 2 rfl) hW,ar (ae q_k 3 rfl) hW,ar (ae u_k 0 rfl) hW,ar (ae u_k 1 rfl) hW,ar (ae u_k 2 rfl) hW,ar (ae u_k 3 rfl) hW,ar (ae v_k 0 rfl) hW,ar (ae v_k 1 rfl) hW,ar (ae v_k 2 rfl) hW,ar (ae v_k 3 rfl) hW⟩
  have B0:Below x9.heap.size x9 x9.drew:=(ap _).drew
  have T1:Hid (∀ W,Below x9.heap.size x9 W->Calls prog 110 #[.agg #[G6 (aA a).i,.bool p_g,.slice p_o p_n p_c,G6 p_e],.agg #[G6 (aA c).i,.bool u_g,.slice u_o u_n u_c,G6 u_e]] W fun r w'=>∃ z,r=.returned z∧EA w' z (aJ (aA a) (aA c))∧Below W.heap.size W w'):=fun W hW=>tV ⟨_,_,_,_,_,rfl,p_D.keeps hW⟩ ⟨_,_,_,_,_,rfl,u_D.keeps hW⟩ (dT _) (dT _) (gm _) (gm _)
  have T2:Hid (∀ W,Below x9.heap.size x9 W->Calls prog 110 #[.agg #[G6 (aA a).i,.bool p_g,.slice p_o p_n p_c,G6 p_e],.agg #[G6 (aA d).i,.bool v_g,.slice v_o v_n v_c,G6 v_e]] W fun r w'=>∃ z,r=.returned z∧EA w' z (aJ (aA a) (aA d))∧Below W.heap.size W w'):=fun W hW=>tV ⟨_,_,_,_,_,rfl,p_D.keeps hW⟩ ⟨_,_,_,_,_,rfl,v_D.keeps hW⟩ (dT _) (dT _) (gm _) (gm _)
  have T3:Hid (∀ W,Below x9.heap.size x9 W->Calls prog 110 #[.agg #[G6 (aA b).i,.bool q_g,.slice q_o q_n q_c,G6 q_e],.agg #[G6 (aA c).i,.bool u_g,.slice u_o u_n u_c,G6 u_e]] W fun r w'=>∃ z,r=.returned z∧EA w' z (aJ (aA b) (aA c))∧Below W.heap.size W w'):=fun W hW=>tV ⟨_,_,_,_,_,rfl,q_D.keeps hW⟩ ⟨_,_,_,_,_,rfl,u_D.keeps hW⟩ (dT _) (dT _) (gm _) (gm _)
  have T4:Hid (∀ W,Below x9.heap.size x9 W->Calls prog 110 #[.agg #[G6 (aA b).i,.bool q_g,.slice q_o q_n q_c,G6 q_e],.agg #[G6 (aA d).i,.bool v_g,.slice v_o v_n v_c,G6 v_e]] W fun r w'=>∃ z,r=.returned z∧EA w' z (aJ (aA b) (aA d))∧Below W.heap.size W w'):=fun W hW=>tV ⟨_,_,_,_,_,rfl,q_D.keeps hW⟩ ⟨_,_,_,_,_,rfl,v_D.keeps hW⟩ (dT _) (dT _) (gm _) (gm _)
  generalize aJ (aA a) (aA c)=M1 at *
  generalize aJ (aA a) (aA d)=M2 at *
  generalize aJ (aA b) (aA c)=M3 at *
  generalize aJ (aA b) (aA d)=M4 at *
  have n_p:y2.heap.size≠w.heap.size+1+1:=fun h=>by have q:=p_k;rw[h,r_k] at q;simp at q
  have n_q:y4.heap.size≠w.heap.size+1+1:=fun h=>by have q:=q_k;rw[h,r_k] at q;simp at q
  have n_u:y6.heap.size≠w.heap.size+1+1:=fun h=>by have q:=u_k;rw[h,r_k] at q;simp at q
  have n_v:y8.heap.size≠w.heap.size+1+1:=fun h=>by have q:=v_k;rw[h,r_k] at q;simp at q
  go_region_held3 (fun W=>W.cell? ⟨y2.heap.size,0,none⟩=some (G6 (aA a).i)∧W.cell? ⟨y2.heap.size,1,none⟩=some (.bool p_g)∧W.cell? ⟨y2.heap.size,2,none⟩=some (.slice p_o p_n p_c)∧W.cell? ⟨y2.heap.size,3,none⟩=some (G6 p_e)∧W.cell? ⟨y4.heap.size,0,none⟩=some (G6 (aA b).i)∧W.cell? ⟨y4.heap.size,1,none⟩=some (.bool q_g)∧W.cell? ⟨y4.heap.size,2,none⟩=some (.slice q_o q_n q_c)∧W.cell? ⟨y4.heap.size,3,none⟩=some (G6 q_e)∧W.cell? ⟨y6.heap.size,0,none⟩=some (G6 (aA c).i)∧W.cell? ⟨y6.heap.size,1,none⟩=some (.bool u_g)∧W.cell? ⟨y6.heap.size,2,none⟩=some (.slice u_o u_n u_c)∧W.cell? ⟨y6.heap.size,3,none⟩=some (G6 u_e)∧W.cell? ⟨y8.heap.size,0,none⟩=some (G6 (aA d).i)∧W.cell? ⟨y8.heap.size,1,none⟩=some (.bool v_g)∧W.cell? ⟨y8.heap.size,2,none⟩=some (.slice v_o v_n v_c)∧W.cell? ⟨y8.heap.size,3,none⟩=some (G6 v_e))
    (first|assumption|exact KK _ B0|exact KK _ B1|exact KK _ B2|exact KK _ B3|exact KK _ B4|exact KK _ B5|exact KK _ B6|exact KK _ (ac B4 (af _ _))|(refine DZ n_p n_q n_u n_v (DZ n_p n_q n_u n_v ?_);exact KK _ B6)|fail)
    (first
      | (go_at_call 106;have _t:=hs5;refine(T.out _ _ _ E5 F5).mono ?_;rintro _ y_6 ⟨rfl,hs6⟩;have B6:=ac B5 hs6;have r_k:=aB B6 r_k;have f_r0:=ae r_k 0 rfl;have f_r1:=ae r_k 1 rfl;have z_r0:=ah r_k 0;have z_r1:=ah r_k 1)
      | (go_at_call 109;have _t:=hs4;refine(Qb (m1_D.keeps (ac hs2 (ac hs3 hs4))) (m2_D.keeps (ac hs3 hs4)) (m3_D.keeps hs4) m4_D (K:=8000) (by omega) b1 b2 b3 b4 k1 k2 k3 k4).mono ?_;rintro _ y_5 ⟨z5,u5,rfl,E5,F5,hs5⟩;have B5:=ac (ac B4 (af _ _)) hs5)
      | (go_at_call 110;have _t:=hs3;refine(T4.out _ B3).mono ?_;rintro _ y_4 ⟨z,rfl,⟨m4_g,m4_o,m4_n,m4_c,m4_e,rfl,m4_D⟩,hs4⟩;have B4:=ac B3 hs4)
      | (go_at_call 110;have _t:=hs2;refine(T3.out _ B2).mono ?_;rintro _ y_3 ⟨z,rfl,⟨m3_g,m3_o,m3_n,m3_c,m3_e,rfl,m3_D⟩,hs3⟩;have B3:=ac B2 hs3)
      | (go_at_call 110;have _t:=hs1;refine(T2.out _ B1).mono ?_;rintro _ y_2 ⟨z,rfl,⟨m2_g,m2_o,m2_n,m2_c,m2_e,rfl,m2_D⟩,hs2⟩;have B2:=ac B1 hs2)
      | (go_at_call 110; refine (T1.out _ B0).mono ?_; rintro _ y_1 ⟨z,rfl,⟨m1_g,m1_o,m1_n,m1_c,m1_e,rfl,m1_D⟩,hs1⟩; have B1:=ac B0 hs1))
  have hb:=ac hb B6
  have f_r0:=ae r_k 0 rfl
  have z_r0:=ah r_k 0
  have d_r0:=az r_k 0 (G6 X)
  have f_r1:=ae r_k 1 rfl
  have z_r1:=ah r_k 1
  have d_r1:=az d_r0 1 (G6 Y)
  have e_r0:=ae d_r1 0 rfl
  have e_r1:=ae d_r1 1 rfl
  have hbe:=((hb.setCell (p:=⟨w.heap.size+1+1,0,none⟩) (show w.heap.size<=w.heap.size+1+1 by omega) (G6 X)).setCell (p:=⟨w.heap.size+1+1,1,none⟩) (show w.heap.size<=w.heap.size+1+1 by omega) (G6 Y))
  clear r_k d_r0 d_r1
  go_wp2
  refine bodyPost_ret (v:=.agg #[G6 X,G6 Y]) (by simp[results,results47,go_sem,e_r0,e_r1]) rfl ⟨rfl,hbe⟩
theorem Fs {ax ay bx by' cx cy:Int} (rax:ag ax) (ray:ag ay) (rbx:ag bx) (rby:ag by') (rcx:ag cx) (rcy:ag cy) (pax:ak ax=true) (pay:ak ay=true) (pbx:ak bx=true) (pby:ak by'=true) (pcx:ak cx=true) (pcy:ak cy=true) (hT:nG ax ay bx by' cx cy=false) (w:World) :
    Calls prog 20 #[.agg #[G6 ax,G6 ay],.agg #[G6 bx,G6 by'],.agg #[G6 cx,G6 cy]] w fun r w'=>r=.returned (.agg #[G6 (bH (gG ax ay bx by' cx cy) 0),G6 (je ax ay bx by' cx cy)])∧Below w.heap.size w w':=by
  have CT:Hid (∀ W g,W.heap[g]?=some (.cells #[G6 ax,G6 ay,G6 bx,G6 by',G6 cx,G6 cy] 33)->Calls prog 45 #[.slice (some ⟨g,0,none⟩) 3 3] W fun x w'=>x=.returned (.bool false)∧Below W.heap.size W w'):=fun W g h=>by
    have:=vm _ _ _ _ _ W (pC W h) (iS rax rbx rcx) (iS ray rby rcy)
    rw[mG bk,show(bk ax ay&&bk bx by'&&bk cx cy)=false from hT] at this
    exact this
  have G1:Hid (∀ W,Calls prog 48 #[G6 ax,G6 bx] W fun r w'=>r=.returned (.agg #[G6 (dZ ax bx),G6 (ef ax bx)])∧Below W.heap.size W w'):=fun W=>ww rax rbx pax pbx W
  have g1:=jM rax rbx pax pbx
  have G2:Hid (∀ W,Calls prog 48 #[G6 cx,G6 bx] W fun r w'=>r=.returned (.agg #[G6 (dZ cx bx),G6 (ef cx bx)])∧Below W.heap.size W w'):=fun W=>ww rcx rbx pcx pbx W
  have g2:=jM rcx rbx pcx pbx
  have G3:Hid (∀ W,Calls prog 48 #[G6 ay,G6 by'] W fun r w'=>r=.returned (.agg #[G6 (dZ ay by'),G6 (ef ay by')])∧Below W.heap.size W w'):=fun W=>ww ray rby pay pby W
  have g3:=jM ray rby pay pby
  have G4:Hid (∀ W,Calls prog 48 #[G6 cy,G6 by'] W fun r w'=>r=.returned (.agg #[G6 (dZ cy by'),G6 (ef cy by')])∧Below W.heap.size W w'):=fun W=>ww rcy rby pcy pby W
  have g4:=jM rcy rby pcy pby
  have M1:Hid (∀ W,Calls prog 47 #[.agg #[G6 (dZ ax bx),G6 (ef ax bx)],.agg #[G6 (dZ cx bx),G6 (ef cx bx)]] W fun e w'=>e=.returned (.agg #[G6 (uh ax bx cx),G6 (ui ax bx cx)])∧Below W.heap.size W w'):=fun W=>Ea g1.lo g1.hi g2.lo g2.hi W
  have M2:Hid (∀ W,Calls prog 47 #[.agg #[G6 (dZ ay by'),G6 (ef ay by')],.agg #[G6 (dZ cy by'),G6 (ef cy by')]] W fun e w'=>e=.returned (.agg #[G6 (uh ay by' cy),G6 (ui ay by' cy)])∧Below W.heap.size W w'):=fun W=>Ea g3.lo g3.hi g4.lo g4.hi W
  have q1:=tS rax rbx rcx pax pbx pcx
  have q2:=tS ray rby rcy pay pby pcy
  have S1:Hid (∀ W,Calls prog 46 #[.agg #[G6 (uh ax bx cx),G6 (ui ax bx cx)],.agg #[G6 (uh ay by' cy),G6 (ui ay by' cy)]] W fun e w'=>e=.returned (.agg #[G6 (lE ax ay bx by' cx cy),G6 (lF ax ay bx by' cx cy)])∧Below W.heap.size W w'):=fun W=>IJ q1.lo q1.hi q2.lo q2.hi W
  have ok:=LS rax ray rbx rby rcx rcy pax pay pbx pby pcx pcy
  have SG:Hid (∀ W,Calls prog 49 #[.agg #[G6 (lE ax ay bx by' cx cy),G6 (lF ax ay bx by' cx cy)]] W fun e w'=>e=.returned (.tuple #[G6 (rZ (lE ax ay bx by' cx cy) (lF ax ay bx by' cx cy)),.bool (me (lE ax ay bx by' cx cy) (lF ax ay bx by' cx cy))])∧Below W.heap.size W w'):=fun W=>Ru ok.lo ok.hi ok.ok W
  have EX:Hid (∀ W,Calls prog 50 #[.agg #[G6 ax,G6 ay],.agg #[G6 bx,G6 by'],.agg #[G6 cx,G6 cy]] W fun r w'=>r=.returned (G6 (bH (gG ax ay bx by' cx cy) 0))∧Below W.heap.size W w'):=fun W=>BB rax ray rbx rby rcx rcy pax pay pbx pby pcx pcy W
  have hD:=Bw rax ray rbx rby rcx rcy pax pay pbx pby pcx pcy
  have eV:eO (aq ax-aq bx) (aq cx-aq bx)+eO (aq ay-aq by') (aq cy-aq by')=gG ax ay bx by' cx cy*pw (-2148):=by
    obtain⟨C,D,h1,h2,h3⟩:=hD
    rw[h3,nX h1,nX h2]
  rw[eV] at ok
  have hso:=DN ok
  rw[oK (bR _)] at hso
  have HSO:Hid (me (lE ax ay bx by' cx cy) (lF ax ay bx by' cx cy)=true->rZ (lE ax ay bx by' cx cy) (lF ax ay bx by' cx cy)=bH (gG ax ay bx by' cx cy) 0):=hso
  have hst:Hid (je ax ay bx by' cx cy=if me (lE ax ay bx by' cx cy) (lF ax ay bx by' cx cy) then 5 else 6):=by
    show je ax ay bx by' cx cy=_
    unfold je;rw[hT];rfl
  clear rax ray rbx rby rcx rcy pax pay pbx pby pcx pcy hT g1 g2 g3 g4 q1 q2 ok hD eV hso
  generalize je ax ay bx by' cx cy=st at *
  generalize bH (gG ax ay bx by' cx cy) 0=sx at *
  generalize rZ (lE ax ay bx by' cx cy) (lF ax ay bx by' cx cy)=sv at *
  generalize me (lE ax ay bx by' cx cy) (lF ax ay bx by' cx cy)=kk at *
  generalize lE ax ay bx by' cx cy=lo at *
  generalize lF ax ay bx by' cx cy=hi at *
  generalize uh ax bx cx=l0 at *
  generalize ui ax bx cx=l1 at *
  generalize uh ay by' cy=s0 at *
  generalize ui ay by' cy=s1 at *
  generalize dZ ax bx=a1 at *
  generalize ef ax bx=b1 at *
  generalize dZ cx bx=a2 at *
  generalize ef cx bx=b2 at *
  generalize dZ ay by'=a3 at *
  generalize ef ay by'=b3 at *
  generalize dZ cy by'=a4 at *
  generalize ef cy by'=b4 at *
  obtain⟨hb0,a_k,b_k,c_k,r_k,hsz0⟩:=LG w (.cells #[G6 ax,G6 ay] 33) (.cells #[G6 bx,G6 by'] 33) (.cells #[G6 cx,G6 cy] 33) (.cells #[G6 0,G6 0] 28)
  have hsz:Hid _:=aK hsz0
  clear hsz0
  have f_a0:=ae a_k 0 rfl
  have f_a1:=ae a_k 1 rfl
  have f_b0:=ae b_k 0 rfl
  have f_b1:=ae b_k 1 rfl
  have f_c0:=ae c_k 0 rfl
  have f_c1:=ae c_k 1 rfl
  go_enter func20,ntmps20
  go_wp2_with fail
  clear f_a0 f_a1 f_b0 f_b1 f_c0 f_c1
  generalize ((((w.alloc (.cells #[G6 ax,G6 ay] 33)).alloc (.cells #[G6 bx,G6 by'] 33)).alloc (.cells #[G6 cx,G6 cy] 33)).alloc (.cells #[G6 0,G6 0] 28))=x0 at hb0 a_k b_k c_k r_k hsz ⊢
  refine(CT.out _ _ (aE _ hsz.out.symm)).mono ?_
  rintro _ y1 ⟨rfl,hw1⟩
  replace a_k:=aj hw1 (am (.cells #[G6 ax,G6 ay,G6 bx,G6 by',G6 cx,G6 cy] 33) a_k)
  replace b_k:=aj hw1 (am (.cells #[G6 ax,G6 ay,G6 bx,G6 by',G6 cx,G6 cy] 33) b_k)
  replace c_k:=aj hw1 (am (.cells #[G6 ax,G6 ay,G6 bx,G6 by',G6 cx,G6 cy] 33) c_k)
  replace r_k:=aj hw1 (am (.cells #[G6 ax,G6 ay,G6 bx,G6 by',G6 cx,G6 cy] 33) r_k)
  replace hb0:=ac (ac hb0 (af x0 (.cells #[G6 ax,G6 ay,G6 bx,G6 by',G6 cx,G6 cy] 33))) hw1
  clear hsz
  go_wp2_with fail
  rename_i Q0 Ka hKa K00 hK00
  have hK2:=hK00
  have HN2:∀ (g:Nat) (x2:World) (t:Array Value),#[t.getD 0 undef,t.getD 1 undef,t.getD 2 undef,.pointer (some ⟨w.heap.size,0,none⟩),.pointer (some ⟨w.heap.size+1,0,none⟩),.pointer (some ⟨w.heap.size+1+1,0,none⟩),.pointer (some ⟨w.heap.size+1+1+1,0,none⟩),t.getD 7 undef,.pointer (some ⟨g,0,none⟩),t.getD 9 undef,t.getD 10 undef,t.getD 11 undef,t.getD 12 undef,t.getD 13 undef,t.getD 14 undef,t.getD 15 undef,t.getD 16 undef,t.getD 17 undef,t.getD 18 undef,t.getD 19 undef,t.getD 20 undef,t.getD 21 undef,t.getD 22 undef,t.getD 23 undef,t.getD 24 undef,t.getD 25 undef,t.getD 26 undef,t.getD 27 undef,t.getD 28 undef,t.getD 29 undef,t.getD 30 undef,t.getD 31 undef,t.getD 32 undef,t.getD 33 undef,t.getD 34 undef,t.getD 35 undef,t.getD 36 undef,t.getD 37 undef,t.getD 38 undef,t.getD 39 undef,t.getD 40 undef,t.getD 41 undef,t.getD 42 undef,t.getD 43 undef,t.getD 44 undef,t.getD 45 undef,t.getD 46 undef,t.getD 47 undef,t.getD 48 undef,t.getD 49 undef,t.getD 50 undef,t.getD 51 undef,t.getD 52 undef,t.getD 53 undef,t.getD 54 undef,t.getD 55 undef,t.getD 56 undef,t.getD 57 undef,t.getD 58 undef,t.getD 59 undef,t.getD 60 undef,t.getD 61 undef,t.getD 62 undef,t.getD 63 undef,t.getD 64 undef,t.getD 65 undef,t.getD 66 undef,t.getD 67 undef,t.getD 68 undef,t.getD 69 undef,t.getD 70 undef,t.getD 71 undef,t.getD 72 undef,t.getD 73 undef,t.getD 74 undef,t.getD 75 undef,t.getD 76 undef,t.getD 77 undef,t.getD 78 undef,t.getD 79 undef,t.getD 80 undef,t.getD 81 undef,t.getD 82 undef,t.getD 83 undef,t.getD 84 undef,t.getD 85 undef,t.getD 86 undef,t.getD 87 undef,t.getD 88 undef,t.getD 89 undef,t.getD 90 undef,t.getD 91 undef,t.getD 92 undef,t.getD 93 undef,t.getD 94 undef,t.getD 95 undef,t.getD 96 undef,t.getD 97 undef,t.getD 98 undef,t.getD 99 undef,t.getD 100 undef]=t->y1.heap.size<=g->x2.heap[g]?=some (.cells #[G6 lo,G6 hi] 72 (0,0))->Below y1.heap.size y1 x2->Exit.then K00 Q0 Exit.normal { tmps:=t,defers:=[] } x2:=by
    intro g_x x2 t ht x_ge x_k hw2
    obtain⟨u2,hu⟩:∃ u:Nat->Value,t=#[u 0,u 1,u 2,.pointer (some ⟨w.heap.size,0,none⟩),.pointer (some ⟨w.heap.size+1,0,none⟩),.pointer (some ⟨w.heap.size+1+1,0,none⟩),.pointer (some ⟨w.heap.size+1+1+1,0,none⟩),u 7,.pointer (some ⟨g_x,0,none⟩),u 9,u 10,u 11,u 12,u 13,u 14,u 15,u 16,u 17,u 18,u 19,u 20,u 21,u 22,u 23,u 24,u 25,u 26,u 27,u 28,u 29,u 30,u 31,u 32,u 33,u 34,u 35,u 36,u 37,u 38,u 39,u 40,u 41,u 42,u 43,u 44,u 45,u 46,u 47,u 48,u 49,u 50,u 51,u 52,u 53,u 54,u 55,u 56,u 57,u 58,u 59,u 60,u 61,u 62,u 63,u 64,u 65,u 66,u 67,u 68,u 69,u 70,u 71,u 72,u 73,u 74,u 75,u 76,u 77,u 78,u 79,u 80,u 81,u 82,u 83,u 84,u 85,u 86,u 87,u 88,u 89,u 90,u 91,u 92,u 93,u 94,u 95,u 96,u 97,u 98,u 99,u 100]:=⟨fun k=>t.getD k undef,ht.symm⟩
    clear ht
    subst hu
    have a_k:=(hw2.block _ (aGe a_k).1).trans a_k
    have b_k:=(hw2.block _ (aGe b_k).1).trans b_k
    have c_k:=(hw2.block _ (aGe c_k).1).trans c_k
    have r_k:=(hw2.block _ (aGe r_k).1).trans r_k
    have hb2:=ac hb0 hw2
    have f_x0:=ae x_k 0 rfl
    have f_x1:=ae x_k 1 rfl
    go_wp2_with fail
    clear f_x0 f_x1
    refine(SG.out _).mono ?_
    rintro _ ys ⟨rfl,hws⟩
    replace a_k:=aj hws a_k
    replace b_k:=aj hws b_k
    replace c_k:=aj hws c_k
    replace r_k:=aj hws r_k
    have hbs:=ac hb2 hws
    cases kk
    · have e1:st=6:=hst.out
      subst e1
      have f_a0:=ae a_k 0 rfl
      have f_a1:=ae a_k 1 rfl
      have f_b0:=ae b_k 0 rfl
      have f_b1:=ae b_k 1 rfl
      have f_c0:=ae c_k 0 rfl
      have f_c1:=ae c_k 1 rfl
      go_wp2_with fail
      refine(EX.out _).mono ?_
      rintro _ ye ⟨rfl,hwe⟩
      replace r_k:=aj hwe r_k
      have hbe:=ac hbs hwe
      have k0:=ae r_k 0 rfl
      have k1:=ae r_k 1 rfl
      have z0:=ah r_k 0
      have z1:=ah r_k 1
      go_wp2
      exact bodyPost_ret (v:=.agg #[G6 sx,G6 6]) (by simp[results,results20,go_sem,k0,k1]) rfl ⟨rfl,((hbe.setCell (p:=⟨w.heap.size+3,0,none⟩) (show w.heap.size<=w.heap.size+3 by omega) _).setCell (p:=⟨w.heap.size+3,1,none⟩) (show w.heap.size<=w.heap.size+3 by omega) _)⟩
    · have e1:st=5:=hst.out
      have e2:=HSO.out rfl
      subst e1 e2
      have k0:=ae r_k 0 rfl
      have k1:=ae r_k 1 rfl
      have z0:=ah r_k 0
      have z1:=ah r_k 1
      go_wp2
      exact bodyPost_ret (v:=.agg #[G6 sv,G6 5]) (by simp[results,results20,go_sem,k0,k1]) rfl ⟨rfl,((hbs.setCell (p:=⟨w.heap.size+3,0,none⟩) (show w.heap.size<=w.heap.size+3 by omega) _).setCell (p:=⟨w.heap.size+3,1,none⟩) (show w.heap.size<=w.heap.size+3 by omega) _)⟩
  have KK2:∀ W,Below y1.heap.size y1 W->W.cell? ⟨w.heap.size,0,none⟩=some (G6 ax)∧W.cell? ⟨w.heap.size+1,0,none⟩=some (G6 bx)∧W.cell? ⟨w.heap.size+2,0,none⟩=some (G6 cx)∧W.cell? ⟨w.heap.size,1,none⟩=some (G6 ay)∧W.cell? ⟨w.heap.size+1,1,none⟩=some (G6 by')∧W.cell? ⟨w.heap.size+2,1,none⟩=some (G6 cy):=fun W hb=>⟨ar (ae a_k 0 rfl) hb,ar (ae b_k 0 rfl) hb,ar (ae c_k 0 rfl) hb,ar (ae a_k 1 rfl) hb,ar (ae b_k 1 rfl) hb,ar (ae c_k 1 rfl) hb⟩
  have hC2_0:=(ap y1).drew
  have hT2_0:Below w.heap.size w y1.drew:=hb0.drew
  have hs2_0:=(ap y1).drew
  go_region_held3 (fun W=>W.cell? ⟨w.heap.size,0,none⟩=some (G6 ax)∧W.cell? ⟨w.heap.size+1,0,none⟩=some (G6 bx)∧W.cell? ⟨w.heap.size+2,0,none⟩=some (G6 cx)∧W.cell? ⟨w.heap.size,1,none⟩=some (G6 ay)∧W.cell? ⟨w.heap.size+1,1,none⟩=some (G6 by')∧W.cell? ⟨w.heap.size+2,1,none⟩=some (G6 cy))
    (with_reducible first|assumption|exact KK2 _ (af _ _).drew|exact KK2 _ hC2_0|exact KK2 _ hC2_1|exact KK2 _ hC2_2|exact KK2 _ hC2_3|exact KK2 _ hC2_4|exact KK2 _ hC2_5|exact KK2 _ hC2_6|exact KK2 _ hC2_7|exact KK2 _ (ac hC2_0 (af _ _))|exact KK2 _ (ac hC2_1 (af _ _))|exact KK2 _ (ac hC2_2 (af _ _))|exact KK2 _ (ac hC2_3 (af _ _))|exact KK2 _ (ac hC2_4 (af _ _))|exact KK2 _ (ac hC2_5 (af _ _))|exact KK2 _ (ac hC2_6 (af _ _))|exact KK2 _ (ac hC2_7 (af _ _))|exact KK2 _ (bJ (hC2_7) (Nat.le_refl _) _ _)|exact KK2 _ (bJ (hC2_7) (hC2_1.size) _ _)|exact KK2 _ (bJ (hC2_7) (hC2_2.size) _ _)|exact KK2 _ (bJ (hC2_7) (hC2_3.size) _ _)|exact KK2 _ (bJ (hC2_7) (hC2_4.size) _ _)|exact KK2 _ (bJ (hC2_7) (hC2_5.size) _ _)|exact KK2 _ (bJ (hC2_7) (hC2_6.size) _ _)|fail)
    (first
      | (go_at_call 46;have _t:=hs2_6;refine(S1.out _).mono ?_;rintro _ y2_7 ⟨rfl,hq2_7⟩;have hs2_7:Below y2_6.heap.size y2_6 y2_7:=(by with_reducible first|exact hq2_7|exact ac (af _ _) hq2_7|exact ac (aS _ _) hq2_7);have hT2_7:=ac hT2_6 hs2_7;have hC2_7:=ac hC2_6 hs2_7;with_reducible first|(have qz2:y2_7.heap[y1.heap.size]?=some (.cells #[G6 0,G6 0] 72 (0,0)):=aj hq2_7 (aj hq2_6 (aj hq2_5 (aj hq2_4 (aj hq2_3 (aj hq2_2 (aj hq2_1 (dO y1 (.cells #[G6 0,G6 0] 72))))))));have cz2_0:=ae qz2 0 rfl;have zz2_0:=ah qz2 0;have cz2_1:=ae qz2 1 rfl;have zz2_1:=ah qz2 1)|(have qz2:y2_7.heap[y2_1.heap.size]?=some (.cells #[G6 0,G6 0] 72 (0,0)):=aj hq2_7 (aj hq2_6 (aj hq2_5 (aj hq2_4 (aj hq2_3 (aj hq2_2 (aD _ _))))));have cz2_0:=ae qz2 0 rfl;have zz2_0:=ah qz2 0;have cz2_1:=ae qz2 1 rfl;have zz2_1:=ah qz2 1)|(have qz2:y2_7.heap[y2_2.heap.size]?=some (.cells #[G6 0,G6 0] 72 (0,0)):=aj hq2_7 (aj hq2_6 (aj hq2_5 (aj hq2_4 (aj hq2_3 (aD _ _)))));have cz2_0:=ae qz2 0 rfl;have zz2_0:=ah qz2 0;have cz2_1:=ae qz2 1 rfl;have zz2_1:=ah qz2 1)|(have qz2:y2_7.heap[y2_3.heap.size]?=some (.cells #[G6 0,G6 0] 72 (0,0)):=aj hq2_7 (aj hq2_6 (aj hq2_5 (aj hq2_4 (aD _ _))));have cz2_0:=ae qz2 0 rfl;have zz2_0:=ah qz2 0;have cz2_1:=ae qz2 1 rfl;have zz2_1:=ah qz2 1)|(have qz2:y2_7.heap[y2_4.heap.size]?=some (.cells #[G6 0,G6 0] 72 (0,0)):=aj hq2_7 (aj hq2_6 (aj hq2_5 (aD _ _)));have cz2_0:=ae qz2 0 rfl;have zz2_0:=ah qz2 0;have cz2_1:=ae qz2 1 rfl;have zz2_1:=ah qz2 1)|(have qz2:y2_7.heap[y2_5.heap.size]?=some (.cells #[G6 0,G6 0] 72 (0,0)):=aj hq2_7 (aj hq2_6 (aD _ _));have cz2_0:=ae qz2 0 rfl;have zz2_0:=ah qz2 0;have cz2_1:=ae qz2 1 rfl;have zz2_1:=ah qz2 1)|(have qz2:y2_7.heap[y2_6.heap.size]?=some (.cells #[G6 0,G6 0] 72 (0,0)):=aj hq2_7 (aD _ _);have cz2_0:=ae qz2 0 rfl;have zz2_0:=ah qz2 0;have cz2_1:=ae qz2 1 rfl;have zz2_1:=ah qz2 1)|skip)
      | (go_at_call 47;have _t:=hs2_5;refine(M2.out _).mono ?_;rintro _ y2_6 ⟨rfl,hq2_6⟩;have hs2_6:Below y2_5.heap.size y2_5 y2_6:=(by with_reducible first|exact hq2_6|exact ac (af _ _) hq2_6|exact ac (aS _ _) hq2_6);have hT2_6:=ac hT2_5 hs2_6;have hC2_6:=ac hC2_5 hs2_6)
      | (go_at_call 48;have _t:=hs2_4;refine(G4.out _).mono ?_;rintro _ y2_5 ⟨rfl,hq2_5⟩;have hs2_5:Below y2_4.heap.size y2_4 y2_5:=(by with_reducible first|exact hq2_5|exact ac (af _ _) hq2_5|exact ac (aS _ _) hq2_5);have hT2_5:=ac hT2_4 hs2_5;have hC2_5:=ac hC2_4 hs2_5)
      | (go_at_call 48;have _t:=hs2_3;refine(G3.out _).mono ?_;rintro _ y2_4 ⟨rfl,hq2_4⟩;have hs2_4:Below y2_3.heap.size y2_3 y2_4:=(by with_reducible first|exact hq2_4|exact ac (af _ _) hq2_4|exact ac (aS _ _) hq2_4);have hT2_4:=ac hT2_3 hs2_4;have hC2_4:=ac hC2_3 hs2_4)
      | (go_at_call 47;have _t:=hs2_2;refine(M1.out _).mono ?_;rintro _ y2_3 ⟨rfl,hq2_3⟩;have hs2_3:Below y2_2.heap.size y2_2 y2_3:=(by with_reducible first|exact hq2_3|exact ac (af _ _) hq2_3|exact ac (aS _ _) hq2_3);have hT2_3:=ac hT2_2 hs2_3;have hC2_3:=ac hC2_2 hs2_3)
      | (go_at_call 48;have _t:=hs2_1;refine(G2.out _).mono ?_;rintro _ y2_2 ⟨rfl,hq2_2⟩;have hs2_2:Below y2_1.heap.size y2_1 y2_2:=(by with_reducible first|exact hq2_2|exact ac (af _ _) hq2_2|exact ac (aS _ _) hq2_2);have hT2_2:=ac hT2_1 hs2_2;have hC2_2:=ac hC2_1 hs2_2)
      | (go_at_call 48; refine (G1.out _).mono ?_; rintro _ y2_1 ⟨rfl,hq2_1⟩; have hs2_1:Below y1.drew.heap.size y1.drew y2_1:=(by with_reducible first | exact hq2_1 | exact ac (af _ _) hq2_1 | exact ac (aS _ _) hq2_1); have hT2_1:=ac hT2_0 hs2_1; have hC2_1:=ac hC2_0 hs2_1))
  · exact HN2 y2_7.heap.size _ _ (by kernel_rfl) ((ac (ac (ac (ac (ac (ac (ac (hs2_0) hs2_1) hs2_2) hs2_3) hs2_4) hs2_5) hs2_6) hs2_7).size) (aD _ _) (ac (ac (ac (ac (ac (ac (ac (ac (hs2_0) hs2_1) hs2_2) hs2_3) hs2_4) hs2_5) hs2_6) hs2_7) (af _ _))
  · exact HN2 y2_6.heap.size _ _ (by kernel_rfl) ((ac (ac (ac (ac (ac (ac (hs2_0) hs2_1) hs2_2) hs2_3) hs2_4) hs2_5) hs2_6).size) (aI (aI (aj hq2_7 (aD _ _)) 0 _) 1 _) (bJ (ac (ac (ac (ac (ac (ac (ac (hs2_0) hs2_1) hs2_2) hs2_3) hs2_4) hs2_5) hs2_6) hs2_7) ((ac (ac (ac (ac (ac (ac (hs2_0) hs2_1) hs2_2) hs2_3) hs2_4) hs2_5) hs2_6).size) _ _)
  · exact HN2 y2_5.heap.size _ _ (by kernel_rfl) ((ac (ac (ac (ac (ac (hs2_0) hs2_1) hs2_2) hs2_3) hs2_4) hs2_5).size) (aI (aI (aj hq2_7 (aj hq2_6 (aD _ _))) 0 _) 1 _) (bJ (ac (ac (ac (ac (ac (ac (ac (hs2_0) hs2_1) hs2_2) hs2_3) hs2_4) hs2_5) hs2_6) hs2_7) ((ac (ac (ac (ac (ac (hs2_0) hs2_1) hs2_2) hs2_3) hs2_4) hs2_5).size) _ _)
  · exact HN2 y2_4.heap.size _ _ (by kernel_rfl) ((ac (ac (ac (ac (hs2_0) hs2_1) hs2_2) hs2_3) hs2_4).size) (aI (aI (aj hq2_7 (aj hq2_6 (aj hq2_5 (aD _ _)))) 0 _) 1 _) (bJ (ac (ac (ac (ac (ac (ac (ac (hs2_0) hs2_1) hs2_2) hs2_3) hs2_4) hs2_5) hs2_6) hs2_7) ((ac (ac (ac (ac (hs2_0) hs2_1) hs2_2) hs2_3) hs2_4).size) _ _)
  · exact HN2 y2_3.heap.size _ _ (by kernel_rfl) ((ac (ac (ac (hs2_0) hs2_1) hs2_2) hs2_3).size) (aI (aI (aj hq2_7 (aj hq2_6 (aj hq2_5 (aj hq2_4 (aD _ _))))) 0 _) 1 _) (bJ (ac (ac (ac (ac (ac (ac (ac (hs2_0) hs2_1) hs2_2) hs2_3) hs2_4) hs2_5) hs2_6) hs2_7) ((ac (ac (ac (hs2_0) hs2_1) hs2_2) hs2_3).size) _ _)
  · exact HN2 y2_2.heap.size _ _ (by kernel_rfl) ((ac (ac (hs2_0) hs2_1) hs2_2).size) (aI (aI (aj hq2_7 (aj hq2_6 (aj hq2_5 (aj hq2_4 (aj hq2_3 (aD _ _)))))) 0 _) 1 _) (bJ (ac (ac (ac (ac (ac (ac (ac (hs2_0) hs2_1) hs2_2) hs2_3) hs2_4) hs2_5) hs2_6) hs2_7) ((ac (ac (hs2_0) hs2_1) hs2_2).size) _ _)
  · exact HN2 y2_1.heap.size _ _ (by kernel_rfl) ((ac (hs2_0) hs2_1).size) (aI (aI (aj hq2_7 (aj hq2_6 (aj hq2_5 (aj hq2_4 (aj hq2_3 (aj hq2_2 (aD _ _))))))) 0 _) 1 _) (bJ (ac (ac (ac (ac (ac (ac (ac (hs2_0) hs2_1) hs2_2) hs2_3) hs2_4) hs2_5) hs2_6) hs2_7) ((ac (hs2_0) hs2_1).size) _ _)
  · exact HN2 y1.heap.size _ _ (by kernel_rfl) (Nat.le_refl _) (aI (aI (aj hq2_7 (aj hq2_6 (aj hq2_5 (aj hq2_4 (aj hq2_3 (aj hq2_2 (aj hq2_1 (dO y1 (.cells #[G6 0,G6 0] 72))))))))) 0 _) 1 _) (bJ (ac (ac (ac (ac (ac (ac (ac (hs2_0) hs2_1) hs2_2) hs2_3) hs2_4) hs2_5) hs2_6) hs2_7) (Nat.le_refl _) _ _)
theorem Lc {ax ay bx by' cx cy:Int} (rax:ag ax) (ray:ag ay) (rbx:ag bx) (rby:ag by') (rcx:ag cx) (rcy:ag cy) (pax:ak ax=true) (pay:ak ay=true) (pbx:ak bx=true) (pby:ak by'=true) (pcx:ak cx=true) (pcy:ak cy=true) (w:World) (H:aO w) :
    Calls prog 86 #[.agg #[G6 ax,G6 ay],.agg #[G6 bx,G6 by'],.agg #[G6 cx,G6 cy]] w fun r w'=>∃ v V,r=.returned (.tuple #[v,G6 0])∧bw w w' V v∧lX (aq ax-aq bx) (aq ay-aq by') (aq cx-aq bx) (aq cy-aq by') V∧Bd 8100 V:=by
  have CG:Hid (∀ W g,W.heap[g]?=some (.cells #[G6 ax,G6 ay,G6 bx,G6 by',G6 cx,G6 cy] 33)->Calls prog 103 #[.slice (some ⟨g,0,none⟩) 3 3] W fun x w'=>x=.returned (.bool true)∧Below W.heap.size W w'):=fun W g h=>by
    have:=sH _ _ _ _ _ W (pC W h) (iS rax rbx rcx) (iS ray rby rcy)
    rw[mG] at this
    have e:(co ax ay&&co bx by'&&co cx cy)=true:=by unfold co;rw[pax,pay,pbx,pby,pcx,pcy];rfl
    rw[e] at this
    exact this
  have CD:Hid (∀ W,aO W->Calls prog 43 #[.agg #[.func (.func 78) #[] #[],.func (.func 97) #[] #[],.func (.func 98) #[] #[],.func (.func 99) #[] #[]],.agg #[G6 ax,G6 ay],.agg #[G6 bx,G6 by'],.agg #[G6 cx,G6 cy]] W fun r w'=>∃ v V,r=.returned v∧bw W w' V v∧lX (aq ax-aq bx) (aq ay-aq by') (aq cx-aq bx) (aq cy-aq by') V∧Bd 8100 V):=fun W h=>yH pax pay pbx pby pcx pcy W h
  clear rax ray rbx rby rcx rcy pax pay pbx pby pcx pcy
  have a_k:(w.alloc (.cells #[G6 ax,G6 ay] 33)).heap[w.heap.size]?=some (.cells #[G6 ax,G6 ay] 33):=aE (.cells #[G6 ax,G6 ay] 33) (by rfl)
  have hb0:=af w (.cells #[G6 ax,G6 ay] 33)
  replace a_k:=am (.cells #[G6 bx,G6 by'] 33) a_k
  have b_k:((w.alloc (.cells #[G6 ax,G6 ay] 33)).alloc (.cells #[G6 bx,G6 by'] 33)).heap[w.heap.size+1]?=some (.cells #[G6 bx,G6 by'] 33):=aE (.cells #[G6 bx,G6 by'] 33) (by simp only[aw])
  replace hb0:=ac hb0 (af (w.alloc (.cells #[G6 ax,G6 ay] 33)) (.cells #[G6 bx,G6 by'] 33))
  replace a_k:=am (.cells #[G6 cx,G6 cy] 33) a_k
  replace b_k:=am (.cells #[G6 cx,G6 cy] 33) b_k
  have c_k:(((w.alloc (.cells #[G6 ax,G6 ay] 33)).alloc (.cells #[G6 bx,G6 by'] 33)).alloc (.cells #[G6 cx,G6 cy] 33)).heap[w.heap.size+1+1]?=some (.cells #[G6 cx,G6 cy] 33):=aE (.cells #[G6 cx,G6 cy] 33) (by simp only[aw])
  replace hb0:=ac hb0 (af ((w.alloc (.cells #[G6 ax,G6 ay] 33)).alloc (.cells #[G6 bx,G6 by'] 33)) (.cells #[G6 cx,G6 cy] 33))
  replace a_k:=am (.cells #[.bool false,.slice none 0 0,G6 0] 40) a_k
  replace b_k:=am (.cells #[.bool false,.slice none 0 0,G6 0] 40) b_k
  replace c_k:=am (.cells #[.bool false,.slice none 0 0,G6 0] 40) c_k
  have r_k:((((w.alloc (.cells #[G6 ax,G6 ay] 33)).alloc (.cells #[G6 bx,G6 by'] 33)).alloc (.cells #[G6 cx,G6 cy] 33)).alloc (.cells #[.bool false,.slice none 0 0,G6 0] 40)).heap[w.heap.size+1+1+1]?=some (.cells #[.bool false,.slice none 0 0,G6 0] 40):=aE (.cells #[.bool false,.slice none 0 0,G6 0] 40) (by simp only[aw])
  replace hb0:=ac hb0 (af (((w.alloc (.cells #[G6 ax,G6 ay] 33)).alloc (.cells #[G6 bx,G6 by'] 33)).alloc (.cells #[G6 cx,G6 cy] 33)) (.cells #[.bool false,.slice none 0 0,G6 0] 40))
  have hsz0:((((w.alloc (.cells #[G6 ax,G6 ay] 33)).alloc (.cells #[G6 bx,G6 by'] 33)).alloc (.cells #[G6 cx,G6 cy] 33)).alloc (.cells #[.bool false,.slice none 0 0,G6 0] 40)).heap.size=w.heap.size+1+1+1+1:=by simp only[aw]
  have hsz:Hid (((((w.alloc (.cells #[G6 ax,G6 ay] 33)).alloc (.cells #[G6 bx,G6 by'] 33)).alloc (.cells #[G6 cx,G6 cy] 33)).alloc (.cells #[.bool false,.slice none 0 0,G6 0] 40)).heap.size=w.heap.size+1+1+1+1):=hsz0
  clear hsz0
  have f_a0:=ae a_k 0 rfl
  have f_a1:=ae a_k 1 rfl
  have f_b0:=ae b_k 0 rfl
  have f_b1:=ae b_k 1 rfl
  have f_c0:=ae c_k 0 rfl
  have f_c1:=ae c_k 1 rfl
  go_enter func86,ntmps86
  go_wp2_with fail
  clear f_a0 f_a1 f_b0 f_b1 f_c0 f_c1
  generalize ((((w.alloc (.cells #[G6 ax,G6 ay] 33)).alloc (.cells #[G6 bx,G6 by'] 33)).alloc (.cells #[G6 cx,G6 cy] 33)).alloc (.cells #[.bool false,.slice none 0 0,G6 0] 40))=x0 at hb0 a_k b_k c_k r_k hsz ⊢
  refine(CG.out _ _ (aE _ hsz.out.symm)).mono ?_
  rintro _ y1 ⟨rfl,hw1⟩
  replace a_k:=aj hw1 (am (.cells #[G6 ax,G6 ay,G6 bx,G6 by',G6 cx,G6 cy] 33) a_k)
  replace b_k:=aj hw1 (am (.cells #[G6 ax,G6 ay,G6 bx,G6 by',G6 cx,G6 cy] 33) b_k)
  replace c_k:=aj hw1 (am (.cells #[G6 ax,G6 ay,G6 bx,G6 by',G6 cx,G6 cy] 33) c_k)
  replace r_k:=aj hw1 (am (.cells #[G6 ax,G6 ay,G6 bx,G6 by',G6 cx,G6 cy] 33) r_k)
  replace hb0:=ac (ac hb0 (af x0 (.cells #[G6 ax,G6 ay,G6 bx,G6 by',G6 cx,G6 cy] 33))) hw1
  have H:=H.keeps hb0
  go_wp2_with fail
  have KK1:∀ W,Below y1.heap.size y1 W->W.cell? ⟨w.heap.size,0,none⟩=some (G6 ax)∧W.cell? ⟨w.heap.size,1,none⟩=some (G6 ay)∧W.cell? ⟨w.heap.size+1,0,none⟩=some (G6 bx)∧W.cell? ⟨w.heap.size+1,1,none⟩=some (G6 by')∧W.cell? ⟨w.heap.size+2,0,none⟩=some (G6 cx)∧W.cell? ⟨w.heap.size+2,1,none⟩=some (G6 cy):=fun W hb=>⟨ar (ae a_k 0 rfl) hb,ar (ae a_k 1 rfl) hb,ar (ae b_k 0 rfl) hb,ar (ae b_k 1 rfl) hb,ar (ae c_k 0 rfl) hb,ar (ae c_k 1 rfl) hb⟩
  have ne_a:w.heap.size≠w.heap.size+1+1+1:=by omega
  have ne_b:w.heap.size+1≠w.heap.size+1+1+1:=by omega
  have ne_c:w.heap.size+2≠w.heap.size+1+1+1:=by omega
  have hC1_0:=(ap y1).drew
  have hs1_0:=(ap y1).drew
  have hT1_0:Below w.heap.size w y1.drew:=hb0.drew
  have H_1_0:=H.keeps (ap y1).drew
  have hrs:=(aGe r_k).1
  go_region_held3 (fun W=>W.cell? ⟨w.heap.size,0,none⟩=some (G6 ax)∧W.cell? ⟨w.heap.size,1,none⟩=some (G6 ay)∧W.cell? ⟨w.heap.size+1,0,none⟩=some (G6 bx)∧W.cell? ⟨w.heap.size+1,1,none⟩=some (G6 by')∧W.cell? ⟨w.heap.size+2,0,none⟩=some (G6 cx)∧W.cell? ⟨w.heap.size+2,1,none⟩=some (G6 cy))
    (with_reducible first|assumption|exact KK1 _ hC1_0|exact KK1 _ hC1_1|exact KK1 _ hC1_2|exact⟨lc (KK1 _ hC1_2).1 ne_a _ _ _,lc (KK1 _ hC1_2).2.1 ne_a _ _ _,lc (KK1 _ hC1_2).2.2.1 ne_b _ _ _,lc (KK1 _ hC1_2).2.2.2.1 ne_b _ _ _,lc (KK1 _ hC1_2).2.2.2.2.1 ne_c _ _ _,lc (KK1 _ hC1_2).2.2.2.2.2 ne_c _ _ _⟩|fail)
    (first
      | (go_at_call 43;have _t:=hs1_1;refine(CD.out _ (H_1_1.keeps (by with_reducible first|exact ap _|exact af _ _|exact aS _ _))).mono ?_;rintro _ y1_2 ⟨v,V,rfl,na1,hV,hB⟩;obtain⟨n_g,n_o,n_n,n_c,n_e,rfl⟩:=bZ na1;have hq1_2:=na1.below;have hs1_2:Below y1_1.heap.size y1_1 y1_2:=(by with_reducible first|exact hq1_2|exact ac (af _ _) hq1_2|exact ac (aS _ _) hq1_2);have hT1_2:=ac hT1_1 hs1_2;have hC1_2:=ac hC1_1 hs1_2;have H_1_2:=H_1_1.keeps hs1_2;have hr:=aj hs1_2 (aj hs1_1 (aj hs1_0 r_k));have k0:=(fun _=>ae hr 0 rfl) hs1_2;have z0:=(fun _=>ah hr 0) hs1_2;have k1:=(fun _=>ae hr 1 rfl) hs1_2;have z1:=(fun _=>ah hr 1) hs1_2;have k2:=(fun _=>ae hr 2 rfl) hs1_2;have z2:=(fun _=>ah hr 2) hs1_2)
      | (go_at_call 42; refine (sf _).mono ?_; rintro _ y1_1 ⟨rfl,hq1_1⟩; have hs1_1:Below y1.drew.heap.size y1.drew y1_1:=(by with_reducible first | exact hq1_1 | exact ac (af _ _) hq1_1 | exact ac (aS _ _) hq1_1); have hT1_1:=ac hT1_0 hs1_1; have hC1_1:=ac hC1_0 hs1_1; have H_1_1:=H_1_0.keeps hs1_1))
  go_wp2
  refine bodyPost_ret (v:=.tuple #[.agg #[.bool n_g,.slice n_o n_n n_c,G6 n_e],G6 0]) (by simp[results,results86,go_sem,k0,k1,k2]) rfl ⟨_,V,rfl,?_,hV,hB⟩
  exact cJ (g:=w.heap.size+3) na1 (ac hb0 (by first|exact hs1_1|exact ac hs1_0 hs1_1)) (by omega) (Nat.lt_of_lt_of_le hrs (ac hs1_0 hs1_1).size) _ _ _
theorem Oc {w:World} {x y:Value} {A B:Int} (hx:br w x A) (hy:br w y B) :
  Calls prog 14 #[x,y] w fun r w'=>r=.returned (.bool (decide (A=B)))∧Below w.heap.size w w':=by
 obtain⟨g,s,m,e,rfl,dx,ao,n,ca,a,rfl,hR,hN,rfl⟩:=hx
 obtain⟨g',s',m',e',rfl,dy,bo,n',cb,b,rfl,hR',hN',rfl⟩:=hy
 have hu:A=B->g=g'∧val a n=val b n'∧e=e':=fun q=>by subst q;exact dx.unique dy
 have hm1:=hR.max
 have hl1:=hR.le
 have hm2:=hR'.max
 have hl2:=hR'.le
 have hb2:=aM w (.cells #[.bool g,.slice ao n ca,G6 e] 40) (.cells #[.bool g',.slice bo n' cb,G6 e'] 40)
 by_cases hg:g=g'∧e=e'∧n=n'
 ·obtain⟨rfl,rfl,rfl⟩:=hg
  have q0:=ew w (.cells #[.bool g,.slice ao n ca,G6 e] 40) (.cells #[.bool g,.slice bo n cb,G6 e] 40)
  have q1:=cZ w (.cells #[.bool g,.slice ao n ca,G6 e] 40) (.cells #[.bool g,.slice bo n cb,G6 e] 40)
  have HR:=hR.keeps hb2
  have HR':=hR'.keeps hb2
  have hAB:(∀ i,i<n->a i=b i)->A=B:=fun q=>by rw[dx.val,dy.val,gJ q]
  go_enter func14,ntmps14
  go_wp2_with fail
  have k1:=ae q0 1 rfl
  have j1:=ae q1 1 rfl
  clear q0 q1 hu hR hR'
  generalize (w.alloc (.cells #[.bool g,.slice ao n ca,G6 e] 40)).alloc (.cells #[.bool g,.slice bo n cb,G6 e] 40)=wx at hb2 k1 j1 HR HR' ⊢
  have HNa:Hid (cT a n):=hN
  have HNb:Hid (cT b n):=hN'
  have HAB:Hid ((∀ i,i<n->a i=b i)->A=B):=hAB
  have HBA:Hid (A=B->∀ i,i<n->a i=b i):=fun q=>Mh hN.1 hN'.1 (by subst q;exact(dx.unique dy).2.1)
  clear hN hN' hAB dx dy
  go_loopw [5] (fun i wr=>∃ k:Nat,k<=n∧i=G6 k∧Hid (∀ i,i<k->a i=b i)∧Below wx.heap.size wx wr) (fun i _=>n-(intOf i).toNat)
  case atStart=>exact⟨0,Nat.zero_le _,rfl,fun i hi=>by omega,ap _⟩
  case round=>
   obtain⟨k,hk,rfl,HS,hbw⟩:=hrel
   have k1':=aX k1 hbw
   have j1':=aX j1 hbw
   by_cases hlt:k<n
   ·obtain⟨ba,fa,rfl,hba,hca⟩:=HR.spot (by omega)
    obtain⟨bb,fb,rfl,hbb,hcb⟩:=HR'.spot (by omega)
    have c1:=(hbw.cell (p:=⟨ba,fa+k,none⟩) hba).trans (hca k (by omega))
    have c2:=(hbw.cell (p:=⟨bb,fb+k,none⟩) hbb).trans (hcb k (by omega))
    clear hca hcb
    by_cases h1:a k=b k
    ·have h2:(a k == b k)=true:=by simpa using h1
     rw[h1] at c1
     go_wp2_with fail
     go_quiet (fail)
     go_wp2
     go_roundw
     case rel=>exact⟨k+1,by omega,by go_num,fun i hi=>by by_cases e:i=k;(· rw[e];exact h1);(· exact HS.out i (by omega)),cV hbw _⟩
     case measure=>simp[intOf];try omega
    ·have h2:(a k == b k)=false:=by simpa using h1
     have hne:A≠B:=fun q=>h1 (HBA.out q k hlt)
     have hdd:Hid (false=decide (A=B)):=(decide_eq_false hne).symm
     clear hne
     go_wp2_with fail
     go_quiet (fail)
     go_wp2
     go_ret
     exact⟨bz hdd.out,ac hb2 (cV hbw _)⟩
   ·obtain rfl:k=n:=by omega
    have hdd:Hid (true=decide (A=B)):=(decide_eq_true (HAB.out HS.out)).symm
    go_wp2
    go_ret
    exact⟨bz hdd.out,ac hb2 hbw⟩
 ·have hne:A≠B:=fun q=>hg ⟨(hu q).1,(hu q).2.2,Mi hN hN' (hu q).2.1⟩
  rw[decide_eq_false hne]
  by_cases c1:g=g'
  ·subst c1
   by_cases c2:e=e'
   ·subst c2
    have c3:n≠n':=fun q=>hg ⟨rfl,rfl,q⟩
    have c4:((n:Int) == (n':Int))=false:=by simp;omega
    clear hu
    go_enter func14,ntmps14
    go_wp2
    all_goals go_ret
    all_goals exact⟨rfl,hb2⟩
   ·have c4:(e == e')=false:=by simpa using c2
    clear hu
    go_enter func14,ntmps14
    go_wp2
    all_goals go_ret
    all_goals exact⟨rfl,hb2⟩
  ·have c4:(g == g')=false:=by simpa using c1
   clear hu
   go_enter func14,ntmps14
   go_wp2
   all_goals go_ret
   all_goals exact⟨rfl,hb2⟩
theorem Cl {ax ay bx by':Int} (rax:ag ax) (ray:ag ay) (rbx:ag bx) (rby:ag by') (pax:ak ax=true) (pay:ak ay=true) (pbx:ak bx=true) (pby:ak by'=true) (w:World) (H:aO w) :
  Calls prog 31 #[.agg #[G6 ax,G6 ay],.agg #[G6 bx,G6 by']] w fun r w'=>∃ v V,r=.returned (.tuple #[v,G6 0])∧bw w w' V v∧lX (aq ax-aq bx) (aq ay-aq by') (aq ax-aq bx) (aq ay-aq by') V∧Bd 8100 V:=by
 have CD:Hid (∀ W,aO W->Calls prog 86 #[.agg #[G6 ax,G6 ay],.agg #[G6 bx,G6 by'],.agg #[G6 ax,G6 ay]] W fun r w'=>∃ v V,r=.returned (.tuple #[v,G6 0])∧bw W w' V v∧lX (aq ax-aq bx) (aq ay-aq by') (aq ax-aq bx) (aq ay-aq by') V∧Bd 8100 V):=fun W h=>Lc rax ray rbx rby rax ray pax pay pbx pby pax pay W h
 clear rax ray rbx rby pax pay pbx pby
 have a_k:(w.alloc (.cells #[G6 ax,G6 ay] 33)).heap[w.heap.size]?=some (.cells #[G6 ax,G6 ay] 33):=aE (.cells #[G6 ax,G6 ay] 33) (by rfl)
 have hb0:=af w (.cells #[G6 ax,G6 ay] 33)
 replace a_k:=am (.cells #[G6 bx,G6 by'] 33) a_k
 have b_k:((w.alloc (.cells #[G6 ax,G6 ay] 33)).alloc (.cells #[G6 bx,G6 by'] 33)).heap[w.heap.size+1]?=some (.cells #[G6 bx,G6 by'] 33):=aE (.cells #[G6 bx,G6 by'] 33) (by simp only[aw])
 replace hb0:=ac hb0 (af (w.alloc (.cells #[G6 ax,G6 ay] 33)) (.cells #[G6 bx,G6 by'] 33))
 replace a_k:=am (.cells #[.bool false,.slice none 0 0,G6 0] 40) a_k
 replace b_k:=am (.cells #[.bool false,.slice none 0 0,G6 0] 40) b_k
 have r_k:(((w.alloc (.cells #[G6 ax,G6 ay] 33)).alloc (.cells #[G6 bx,G6 by'] 33)).alloc (.cells #[.bool false,.slice none 0 0,G6 0] 40)).heap[w.heap.size+1+1]?=some (.cells #[.bool false,.slice none 0 0,G6 0] 40):=aE (.cells #[.bool false,.slice none 0 0,G6 0] 40) (by simp only[aw])
 replace hb0:=ac hb0 (af ((w.alloc (.cells #[G6 ax,G6 ay] 33)).alloc (.cells #[G6 bx,G6 by'] 33)) (.cells #[.bool false,.slice none 0 0,G6 0] 40))
 have f_a0:=ae a_k 0 rfl
 have f_a1:=ae a_k 1 rfl
 have f_b0:=ae b_k 0 rfl
 have f_b1:=ae b_k 1 rfl
 go_enter func31,ntmps31
 go_wp2_with fail
 clear f_a0 f_a1 f_b0 f_b1
 generalize (((w.alloc (.cells #[G6 ax,G6 ay] 33)).alloc (.cells #[G6 bx,G6 by'] 33)).alloc (.cells #[.bool false,.slice none 0 0,G6 0] 40))=x0 at hb0 a_k b_k r_k ⊢
 have H:=H.keeps hb0
 have hs0:=(aGe r_k).1
 refine(CD.out _ H).mono ?_
 rintro _ y2 ⟨v,V,rfl,h2,hD,hB⟩
 obtain⟨n_g,n_o,n_n,n_c,n_e,rfl⟩:=bZ h2
 have hw2:=h2.below
 replace r_k:=aj hw2 r_k
 have k0:=ae r_k 0 rfl
 have z0:=ah r_k 0
 have k1:=ae r_k 1 rfl
 have z1:=ah r_k 1
 have k2:=ae r_k 2 rfl
 have z2:=ah r_k 2
 go_wp2
 refine bodyPost_ret (v:=.tuple #[.agg #[.bool n_g,.slice n_o n_n n_c,G6 n_e],G6 0]) (by simp[results,results31,go_sem,k0,k1,k2]) rfl ⟨_,V,rfl,?_,hD,hB⟩
 exact cJ (g:=w.heap.size+2) h2 hb0 (by omega) hs0 _ _ _
theorem Ld (x:Int) (w:World) :
  Calls prog 19 #[G6 x] w fun e w'=>e=.returned (G6 x)∧w'=w:=by
 go_enter func19,ntmps19
 go_wp2
 go_ret
 exact⟨ce (by first|rfl|omega),rfl⟩
theorem Qc:aq 0=0:=by
 unfold aq
 rw[show aN 0=0 by decide,show dW 0=false by decide]
 show(0:Int)*_=0
 rw[Int.zero_mul]
theorem St:aq 4613937818241073152=3*pw 0:=by
 unfold aq
 rw[show dW 4613937818241073152=false by decide,show aN 4613937818241073152=6755399441055744 by decide,show bh 4613937818241073152=-51 by decide,Dd (e:=-51) (k:=0) (l:=51) (by omega) (by omega)]
 generalize pw (-51)=p
 show 6755399441055744*p=3*(p*2^51)
 rw[show(2:Int)^51=2251799813685248 by decide]
 omega
theorem Su:aq 4616189618054758400=4*pw 0:=by
 unfold aq
 rw[show dW 4616189618054758400=false by decide,show aN 4616189618054758400=4503599627370496 by decide,show bh 4616189618054758400=-50 by decide,Dd (e:=-50) (k:=0) (l:=50) (by omega) (by omega)]
 generalize pw (-50)=p
 show 4503599627370496*p=4*(p*2^50)
 rw[show(2:Int)^50=1125899906842624 by decide]
 omega
theorem Mb {C Y S k:Int} (h:C*S=(0-k*Y)*(0-k*Y)) (e:Y=S):C*S=(k*k*Y)*S:=by
 subst e
 rw[h]
 grind
theorem Mc:pw 0=2^4194304:=by unfold pw;congr 1
theorem Qd {V:Int} (h:lX (aq 0-aq 4613937818241073152) (aq 0-aq 4616189618054758400) (aq 0-aq 4613937818241073152) (aq 0-aq 4616189618054758400) V):V=sg false 25*pw 0:=by
 obtain⟨C,D,h1,h2,rfl⟩:=h
 rw[Qc,St] at h1
 rw[Qc,Su] at h2
 rw[mM (Mb h1 Mc),mM (Mb h2 Mc)]
 generalize pw 0=p
 show 3*3*p+4*4*p=25*p
 omega
theorem Eb (w:World) (H:aO w):Calls prog 16 #[] w fun e w'=>e=.returned (.bool true)∧Below w.heap.size w w':=by
 have CS:Hid (∀ W,aO W->Calls prog 31 #[.agg #[G6 0,G6 0],.agg #[G6 4613937818241073152,G6 4616189618054758400]] W fun r w'=>∃ v V,r=.returned (.tuple #[v,G6 0])∧bw W w' V v∧lX (aq 0-aq 4613937818241073152) (aq 0-aq 4616189618054758400) (aq 0-aq 4613937818241073152) (aq 0-aq 4616189618054758400) V∧Bd 8100 V):=fun W h=>Cl (by unfold ag;decide) (by unfold ag;decide) (by unfold ag;decide) (by unfold ag;decide) (by decide) (by decide) (by decide) (by decide) W h
 go_enter func16,ntmps16
 go_wp2_with fail
 refine(CS.out _ H).mono ?_
 rintro _ y1 ⟨v,V,rfl,h1,hD,hB⟩
 replace hD:Hid (V=sg false 25*pw 0):=Qd hD
 obtain⟨x_g,x_o,x_n,x_c,x_e,rfl⟩:=bZ h1
 have hw1:=h1.below
 have x_D:=h1.num
 clear h1 hB CS
 have x_k:=aD y1 (.cells #[.bool x_g,.slice x_o x_n x_c,G6 x_e] 40)
 have x_D:=x_D.keeps (af y1 (.cells #[.bool x_g,.slice x_o x_n x_c,G6 x_e] 40))
 have hb1:=ac hw1 (af y1 (.cells #[.bool x_g,.slice x_o x_n x_c,G6 x_e] 40))
 go_wp2_with (go_at_call 19;refine(Ld _ _).mono ?_;rintro _ wz ⟨rfl,hwz⟩;replace hwz:=hwz.symm;subst hwz)
 have hl:=Jm (w:=(y1.alloc (.cells #[.bool x_g,.slice x_o x_n x_c,G6 x_e] 40)).alloc (.cells #[G6 25] 3)) (g:=y1.heap.size+1) false (m:=25) (e:=0) (by decide) (by decide) (by decide) (by decide) (aE _ (by simp only[aw]))
 have x_E:=x_D.keeps (af (y1.alloc (.cells #[.bool x_g,.slice x_o x_n x_c,G6 x_e] 40)) (.cells #[G6 25] 3))
 refine(Oc x_E hl).mono ?_
 rintro _ y2 ⟨rfl,hw2⟩
 have he:decide (V=sg false 25*pw 0)=true:=decide_eq_true hD.out
 rw[he]
 have hb2:=ac (ac hb1 (af _ _)) hw2
 clear he hD hl x_E
 go_wp2
 go_ret
 exact⟨rfl,hb2⟩
end Go.Proofs.YtjjihmnbdeeedaaGreatDoor
namespace Go.Proofs.YtjjihmnbdeeedaaGreatDoor
open Go Go.Proofs.Tryz Go.ChangeShapes Go.WideShapes Go.ChangeAt Go.RowKit Go.Proofs.YtjjihmnbdeeedaaGreatDoor.M
theorem BF:prog.cellsOf 33=2:=by kernel_rfl
theorem Ft:prog.cellsOf 3=1:=by kernel_rfl
theorem Cm {H:Type} {enc:TypeId × Value->H} {W:World} {n:Nat} {cs:List Value} {x:DataW H × List MemPlace}
  (h:DataW.trod enc prog W 0 (fun _=>true) true n 33 cs=some x) :
  ∃ a b:Int,cs=[G6 a,G6 b]∧ag a∧ag b:=by
 obtain⟨xs,m,_,rfl,hl,hlen,hf⟩:=DataW.trod_struct underlying33 h
 rw[BF] at hl
 match cs,hl with
 | [v0,v1],_=>
  match xs,hlen with
  | [y0,y1],_=>
   have f0:DataW.trod enc prog W 0 (fun _=>true) true m 3 (([v0,v1].drop 0).take (prog.cellsOf 3))=some y0:=hf 0 _ rfl
   have f1:DataW.trod enc prog W 0 (fun _=>true) true m 3 (([v0,v1].drop 1).take (prog.cellsOf 3))=some y1:=hf 1 _ rfl
   rw[Ft] at f0 f1
   simp only[List.drop_zero,List.drop_succ_cons,List.take_succ_cons,List.take_zero] at f0 f1
   obtain⟨k0,e0,_,w0⟩:=DataW.trod_int underlying3 f0
   obtain⟨k1,e1,_,w1⟩:=DataW.trod_int underlying3 f1
   simp at e0 e1
   subst e0 e1
   exact⟨k0,k1,rfl,Gj w0,Gj w1⟩
theorem uZ {H:Type} {enc:TypeId × Value->H} {W:World} {base:Nat} {v:Value} {d:DataW H} {p:List MemPlace} (hv:Value.okWide prog W .any base 33 v)
  (h:DataW.Trod enc prog W 0 (fun _=>true) true 33 v d p):∃ a b:Int,v=.agg #[G6 a,G6 b]∧ag a∧ag b:=by
 obtain⟨cs,rfl,hc⟩:=okWide_struct underlying33 hv
 obtain⟨fuel,hf⟩:=h
 obtain⟨a,b,hr,h1,h2⟩:=Cm hf
 refine⟨a,b,?_,h1,h2⟩
 congr 1
 have:cs.toList=[G6 a,G6 b]:=by simpa [Value.cells] using hr
 exact Array.toList_inj.1 this
end Go.Proofs.YtjjihmnbdeeedaaGreatDoor
