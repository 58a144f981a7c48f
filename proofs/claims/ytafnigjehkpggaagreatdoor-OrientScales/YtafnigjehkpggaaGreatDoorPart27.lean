/-
  Parts of the proof, one behind another.
-/
import Derived.Test.YtafnigjehkpggaaGreatDoorPart25
import Derived.Test.YtafnigjehkpggaaGreatDoorPart26
import Derived.Test.YtafnigjehkpggaaGreatDoorPart15
import Derived.Test.YtafnigjehkpggaaGreatDoorPart16
import Derived.Test.YtafnigjehkpggaaGreatDoorPart10
import Derived.ScopeJumps
namespace Go.Proofs.YtafnigjehkpggaaGreatDoor
open Go Go.RowKit Go.Proofs.YtafnigjehkpggaaGreatDoor.M
set_option linter.unusedSimpArgs false
set_option linter.unusedVariables false
theorem lost_fx {u v:Int} (h1:Fx 872 1226 u) (h2:Fx 872 1226 v):pok (prL u v)=true∧∃ T,2 ^ 1074 * T=iV u * iV v∧iV (fprod u v) + iV (prL u v)=T:=by
  obtain ⟨q,_,T,hT,hU⟩:=h1.prod h2 (by decide) (by decide) (by decide)
  have hm:=maxV_ge
  have e:(2:Int) ^ 1254=268435456 * 2 ^ 1226:=by
    rw [show (1254:Nat)=28 + 1226 by decide,Int.pow_add]
    congr 1
  have l:(2:Int) ^ 1254 <= 2 ^ 2097:=p2le (by decide)
  have pp:=p2 1226
  have s1:=sp_fin h1.r h1.p h1.b (by omega)
  have s2:=sp_fin h2.r h2.p h2.b (by omega)
  have hb:=q.b
  have hd:=h_dbl hU
  have hu:=hU.1
  have pk:pok (prL u v)=true:=by
    refine prod_fin h1.r h2.r s1 s2 q.p hT ?_
    have l2:(2:Int) ^ 1381 <= 2 ^ 2097:=p2le (by decide)
    have e2:(2:Int) ^ 1380=2 * 2 ^ 1379:=p2s 1379
    have e3:(2:Int) ^ 1381=2 * 2 ^ 1380:=p2s 1380
    have hb':((iV (fprod u v)).natAbs:Int) <= 2 ^ 1379:=hb
    generalize (2:Int) ^ 1379=X at *
    generalize (2:Int) ^ 1380=Y at *
    generalize (2:Int) ^ 1381=Z at *
    generalize (2:Int) ^ 2097=M at *
    clear e l pp s1 s2 hb hT
    omega
  exact ⟨pk,T,hT,(prL_exact h1.r h2.r pk hT).2.2⟩
theorem mul_inj {q x y:Int} (hq:0 < q) (h:q * x=q * y):x=y:=Int.eq_of_mul_eq_mul_left (Int.ne_of_gt hq) h
theorem hd_eq {u1 v1 u2 v2:Int} (h1:Fx 872 1226 u1) (h2:Fx 872 1226 v1) (h3:Fx 872 1226 u2) (h4:Fx 872 1226 v2) (he:iV (fprod u1 v2)=iV (fprod v1 u2)) :
    HdV (hT u1 v1 u2 v2) (fsum (prL u1 v2) (neg (prL v1 u2))):=by
  obtain ⟨p1,T1,e1,x1⟩:=lost_fx h1 h4
  obtain ⟨p2',T2,e2,x2⟩:=lost_fx h2 h3
  have r1:=prL_rng h1.r h4.r
  have r2:=prL_rng h2.r h3.r
  obtain ⟨n1,n2,n3⟩:=neg_facts r2 p2'
  have hq:=p2 1074
  have eT:hT u1 v1 u2 v2=T1 - T2:=by
    refine mul_inj hq ?_
    rw [hT_eq h1 h2 h3 h4,Int.mul_sub,e1,e2]
  have eS:iV (prL u1 v2) + iV (neg (prL v1 u2))=hT u1 v1 u2 v2:=by rw [eT,n3]; omega
  have s:=stp_sum r1 n1 p1 n2
  rw [eS] at s
  have hb:=hT_bd h1 h2 h3 h4
  have pk:=s.fin (Int.le_trans (Int.le_trans hb (p2le (by decide))) maxV_ge)
  refine ⟨s.rn,pk,?_⟩
  rw [sum_iV r1 n1 p1 n2,eS]
theorem keys_rg {a b:Int} (ha:rng a) (hb:rng b) (h:key a=key b):rg a=rg b:=by
  have p:=(q_rg ha).2
  have q:=(q_rg hb).2
  rw [key_rg ha,key_rg hb] at h
  split at h <;> split at h <;> omega
theorem hd_near {x:NumR} {T:Int} (ok:okR x=true) (hV:x.V=T * pw (-1074)) (hb:(T.natAbs:Int) <= 2 ^ 1379):HdV T (toR 0 x).1:=by
  have s:=nrP_stp T
  have pk:=s.fin (Int.le_trans (Int.le_trans hb (p2le (by decide))) maxV_ge)
  have hR:=to_rd ok
  have r1:=toR_range ok 0
  have hs:same (nrP T) (toR 0 x).1=true:=by
    refine same_near (g:=false) (f:=fun way=>toR way x) hR ?_
    rw [hV]
    by_cases c:T=0
    . exact .inl ⟨by rw [c,Int.zero_mul],by rw [c]; decide⟩
    . refine .inr ⟨k_ne (pw_pos _) c,?_⟩
      unfold nrP; rw [if_neg c]
  unfold same at hs
  simp only [Bool.and_eq_true,Bool.not_eq_true',decide_eq_false_iff_not,decide_eq_true_eq] at hs
  obtain ⟨c1,c2,hk⟩:=hs
  have hg:=keys_rg s.rn r1 hk
  refine ⟨r1,pok_of r1 c2 (fun q=>inf_no s.rn (hg.trans q) pk),?_⟩
  have a:=iV_le s.rn r1 (Int.le_of_eq hk)
  have b:=iV_le r1 s.rn (Int.le_of_eq hk.symm)
  omega
set_option maxRecDepth 100000 in
set_option maxHeartbeats 2000000 in
theorem oHeads_eq {u1 v1 u2 v2 L R:Int} (E1 E2 E3 E4:Nat) (h1:Fx 872 1226 u1) (h2:Fx 872 1226 v1) (h3:Fx 872 1226 u2) (h4:Fx 872 1226 v2) (ho:FloatKind.f64.format.order (wd L) (wd R)=some .eq) (he:iV (fprod u1 v2)=iV (fprod v1 u2)) (w:World) (H:Hold4 w) :
    Calls Tryz.prog 29 #[.agg #[.float .f64 (wd u1),.float .f64 E1,.float .f64 (wd v1),.float .f64 E2,.float .f64 (wd u2),.float .f64 E3,.float .f64 (wd v2),.float .f64 E4],.float .f64 (wd L),.float .f64 (wd R)] w fun r w'=>∃ h,r=.returned (.float .f64 (wd h))∧HdV (hT u1 v1 u2 v2) h∧Below w.heap.size w w':=by
  have hv:=hd_eq h1 h2 h3 h4 he
  have C1:Hid (∀ W,Hold4 W->Calls Tryz.prog 47 #[.float .f64 (wd u1),.float .f64 (wd v2)] W fun r w'=>r=.returned (.float .f64 (wd (prL u1 v2)))∧Below W.heap.size W w'):=fun W h=>oLost h1.r h4.r h1.p h4.p W h
  have C2:Hid (∀ W,Hold4 W->Calls Tryz.prog 47 #[.float .f64 (wd v1),.float .f64 (wd u2)] W fun r w'=>r=.returned (.float .f64 (wd (prL v1 u2)))∧Below W.heap.size W w'):=fun W h=>oLost h2.r h3.r h2.p h3.p W h
  have hd:=fun W=>run_diffN (P:=Tryz.prog) 60 (FW.pat (q_fin (lost_fx h1 h4).1) (prL_rng h1.r h4.r)) (FW.pat (q_fin (lost_fx h2 h3).1) (prL_rng h2.r h3.r)) (q_fin hv.p) W
  have HV:Hid (HdV (hT u1 v1 u2 v2) (fsum (prL u1 v2) (neg (prL v1 u2)))):=hv
  clear h1 h2 h3 h4 he hv
  generalize hT u1 v1 u2 v2=T at *
  generalize hx:fsum (prL u1 v2) (neg (prL v1 u2))=X at *
  clear hx
  have HX:Hid (∃ h,wd X=wd h∧HdV T h):=⟨X,rfl,HV.out⟩
  generalize wd X=XW at *
  generalize wd (prL u1 v2)=A1 at *
  generalize wd (prL v1 u2)=A2 at *
  generalize wd u1=U1 at *
  generalize wd v1=V1 at *
  generalize wd u2=U2 at *
  generalize wd v2=V2 at *
  generalize wd L=LW at *
  generalize wd R=RW at *
  have b_k:=heap_a1 w (.cells #[.float .f64 U1,.float .f64 E1,.float .f64 V1,.float .f64 E2,.float .f64 U2,.float .f64 E3,.float .f64 V2,.float .f64 E4] 64)
  have hb0:=bel_alloc w (.cells #[.float .f64 U1,.float .f64 E1,.float .f64 V1,.float .f64 E2,.float .f64 U2,.float .f64 E3,.float .f64 V2,.float .f64 E4] 64)
  go_enter Tryz.func29,Tryz.ntmps29
  go_wp2_with fail
  generalize w.alloc (.cells #[.float .f64 U1,.float .f64 E1,.float .f64 V1,.float .f64 E2,.float .f64 U2,.float .f64 E3,.float .f64 V2,.float .f64 E4] 64)=x0 at b_k hb0 ⊢
  have f0:=blkC b_k 0 rfl
  have f2:=blkC b_k 2 rfl
  have f4:=blkC b_k 4 rfl
  have f6:=blkC b_k 6 rfl
  go_quiet (fail)
  go_wp2_with fail
  clear f0 f2 f4 f6
  have hd:=bDrewN (bel_refl x0) nq
  replace hb0:=bel_trans hb0 hd
  replace H:=H.keeps hb0
  generalize x0.drewN nq=x1 at hb0 H ⊢
  clear hd
  refine (C1.out _ H).mono ?_
  rintro _ y1 ⟨rfl,hw1⟩
  replace H:=H.keeps hw1
  go_wp2_with fail
  refine (C2.out _ H).mono ?_
  rintro _ y2 ⟨rfl,hw2⟩
  go_wp2
  go_ret
  obtain ⟨h,e,k⟩:=HX.out
  subst e
  exact ⟨h,rfl,k,bel_trans hb0 (bel_trans hw1 hw2)⟩
theorem row2i (w:World) (x y:Int):Row (w.alloc (.cells #[.int .i64 x,.int .i64 y] 3)) (some ⟨w.heap.size,0,none⟩) 2 2 (fun i=>if i=0 then x else y):=by
  have k:=heap_a1 w (.cells #[.int .i64 x,.int .i64 y] 3)
  refine ⟨Nat.le_refl _,by decide,(fun q=>by cases q),fun _=>⟨w.heap.size,0,rfl,(Array.getElem?_eq_some_iff.1 k).1,fun i hi=>?_⟩⟩
  rcases (show i=0∨i=1 by omega) with rfl | rfl
  . exact blkC k 0 rfl
  . exact blkC k 1 rfl
theorem dot_T {u1 v1 u2 v2 V:Int} (h1:Fx 872 1226 u1) (h2:Fx 872 1226 v1) (h3:Fx 872 1226 u2) (h4:Fx 872 1226 v2) (hV:V * 2 ^ 4194304=sumF (fun i=>patV (if i=0 then u1 else neg v1) * patV (if i=0 then v2 else u2)) 2):V=hT u1 v1 u2 v2 * pw (-1074):=by
  obtain ⟨n1,n2,n3⟩:=neg_facts h2.r h2.p
  have e0:sumF (fun i=>patV (if i=0 then u1 else neg v1) * patV (if i=0 then v2 else u2)) 2=0 + patV u1 * patV v2 + patV (neg v1) * patV u2:=rfl
  rw [e0,patV_iV h1.r h1.p,patV_iV h4.r h4.p,patV_iV n1 n2,patV_iV h3.r h3.p,n3] at hV
  have e2:=pw_mul (a:=-1074) (b:=-1074) (by decide) (by decide)
  rw [show (-1074 + -1074:Int)=-2148 by decide] at e2
  have e3:=pw_add (e:=-2148) (by decide) 1074
  rw [show (-2148 + ((1074:Nat):Int))=-1074 by decide] at e3
  have hh:=hT_eq h1 h2 h3 h4
  have hz:=two_pos 4194304
  generalize hT u1 v1 u2 v2=T at *
  generalize iV u1=a at *
  generalize iV v2=b at *
  generalize iV v1=c at *
  generalize iV u2=d at *
  generalize pw (-2148)=P at *
  generalize pw (-1074)=Q at *
  generalize (2:Int) ^ 4194304=Z at *
  generalize (2:Int) ^ 1074=K at *
  refine mul_inj (q:=Z) (by omega) ?_
  have e4:Z * V=(a * b - c * d) * (Q * Q):=by grind
  rw [e4,e2,<- hh,e3]
  grind
set_option maxRecDepth 100000 in
set_option maxHeartbeats 4000000 in
theorem oHeads_ne {u1 v1 u2 v2 L R:Int} (E1 E2 E3 E4:Nat) (h1:Fx 872 1226 u1) (h2:Fx 872 1226 v1) (h3:Fx 872 1226 u2) (h4:Fx 872 1226 v2) (ho:FloatKind.f64.format.order (wd L) (wd R)=some .lt∨FloatKind.f64.format.order (wd L) (wd R)=some .gt) (w:World) (H:Hold4 w) :
    Calls Tryz.prog 29 #[.agg #[.float .f64 (wd u1),.float .f64 E1,.float .f64 (wd v1),.float .f64 E2,.float .f64 (wd u2),.float .f64 E3,.float .f64 (wd v2),.float .f64 E4],.float .f64 (wd L),.float .f64 (wd R)] w fun r w'=>∃ h,r=.returned (.float .f64 (wd h))∧HdV (hT u1 v1 u2 v2) h∧Below w.heap.size w w':=by
  obtain ⟨n1,n2,n3⟩:=neg_facts h2.r h2.p
  have C1:Hid (∀ W,Calls Tryz.prog 49 #[.float .f64 (wd u1)] W fun e w'=>e=.returned (.int .i64 u1)∧w'=W):=fun W=>of_FW (fx_fw h1) W
  have C2:Hid (∀ W,Calls Tryz.prog 49 #[.float .f64 (wd (neg v1))] W fun e w'=>e=.returned (.int .i64 (neg v1))∧w'=W):=fun W=>of_FW (FW.pat (q_fin n2) n1) W
  have C3:Hid (∀ W,Calls Tryz.prog 49 #[.float .f64 (wd v2)] W fun e w'=>e=.returned (.int .i64 v2)∧w'=W):=fun W=>of_FW (fx_fw h4) W
  have C4:Hid (∀ W,Calls Tryz.prog 49 #[.float .f64 (wd u2)] W fun e w'=>e=.returned (.int .i64 u2)∧w'=W):=fun W=>of_FW (fx_fw h3) W
  have hN:=fun W=>run_negF (P:=Tryz.prog) (p:=v1) ⟨h2.r,q_fin h2.p⟩ W
  have C5:Hid (∀ (o1 o2:Option Addr) W,Row W o1 2 2 (fun i=>if i=0 then u1 else neg v1)->Row W o2 2 2 (fun i=>if i=0 then v2 else u2)->Hold4 W->Calls Tryz.prog 48 #[.slice o1 2 2,.slice o2 2 2,.int .i64 0] W fun r w'=>∃ h,r=.returned (.tuple #[.int .i64 h,.int .i64 0])∧HdV (hT u1 v1 u2 v2) h∧Below W.heap.size W w'):=fun o1 o2 W r1 r2 hh=>by
    refine (dotF2 W r1 r2 (fun i hi=>?_) (fun i hi=>?_) (by omega) hh).mono ?_
    . show rng (if i=0 then u1 else neg v1)∧pok (if i=0 then u1 else neg v1)=true
      split
      . exact ⟨h1.r,h1.p⟩
      . exact ⟨n1,n2⟩
    . show rng (if i=0 then v2 else u2)∧pok (if i=0 then v2 else u2)=true
      split
      . exact ⟨h4.r,h4.p⟩
      . exact ⟨h3.r,h3.p⟩
    . rintro _ w' ⟨x,rfl,ok,hV,hb⟩
      exact ⟨_,rfl,hd_near ok (dot_T h1 h2 h3 h4 hV) (hT_bd h1 h2 h3 h4),hb⟩
  have C6:Hid (∀ (h:Int) W,Calls Tryz.prog 26 #[.int .i64 h] W fun e w'=>e=.returned (.float .f64 (wd h))∧w'=W):=fun h W=>bitsFloat h W
  clear h1 h2 h3 h4 n1 n2 n3
  generalize hT u1 v1 u2 v2=T at *
  generalize wd u1=U1 at *
  generalize wd (neg v1)=NV at *
  generalize neg v1=nv at *
  generalize wd v1=V1 at *
  generalize wd u2=U2 at *
  generalize wd v2=V2 at *
  generalize wd L=LW at *
  generalize wd R=RW at *
  rcases ho with ho | ho
  all_goals
    have b_k:=heap_a1 w (.cells #[.float .f64 U1,.float .f64 E1,.float .f64 V1,.float .f64 E2,.float .f64 U2,.float .f64 E3,.float .f64 V2,.float .f64 E4] 64)
    have hb0:=bel_alloc w (.cells #[.float .f64 U1,.float .f64 E1,.float .f64 V1,.float .f64 E2,.float .f64 U2,.float .f64 E3,.float .f64 V2,.float .f64 E4] 64)
    go_enter Tryz.func29,Tryz.ntmps29
    go_wp2_with fail
    generalize w.alloc (.cells #[.float .f64 U1,.float .f64 E1,.float .f64 V1,.float .f64 E2,.float .f64 U2,.float .f64 E3,.float .f64 V2,.float .f64 E4] 64)=x0 at b_k hb0 ⊢
    have f0:=blkC b_k 0 rfl
    have f2:=blkC b_k 2 rfl
    have f4:=blkC b_k 4 rfl
    have f6:=blkC b_k 6 rfl
    go_quiet (fail)
    go_wp2_with fail
    clear f0 f2 f4 f6
    have hd:=bDrewN (bel_refl x0) nq
    replace hb0:=bel_trans hb0 hd
    replace H:=H.keeps hb0
    generalize x0.drewN nq=x1 at hb0 H ⊢
    clear hd
    refine (C1.out _).mono ?_
    rintro _ wz ⟨rfl,hwz⟩
    replace hwz:=hwz.symm
    subst hwz
    go_wp2_with fail
    refine (C2.out _).mono ?_
    rintro _ wz ⟨rfl,hwz⟩
    replace hwz:=hwz.symm
    subst hwz
    go_wp2_with fail
    have r1:=row2i x1 u1 nv
    have hb1:=bel_alloc x1 (.cells #[.int .i64 u1,.int .i64 nv] 3)
    generalize x1.alloc (.cells #[.int .i64 u1,.int .i64 nv] 3)=x2 at r1 hb1 ⊢
    replace H:=H.keeps hb1
    replace hb0:=bel_trans hb0 hb1
    refine (C3.out _).mono ?_
    rintro _ wz ⟨rfl,hwz⟩
    replace hwz:=hwz.symm
    subst hwz
    go_wp2_with fail
    refine (C4.out _).mono ?_
    rintro _ wz ⟨rfl,hwz⟩
    replace hwz:=hwz.symm
    subst hwz
    go_wp2_with fail
    have r2:=row2i x2 v2 u2
    have hb2:=bel_alloc x2 (.cells #[.int .i64 v2,.int .i64 u2] 3)
    generalize x2.alloc (.cells #[.int .i64 v2,.int .i64 u2] 3)=x3 at r2 hb2 ⊢
    replace H:=H.keeps hb2
    replace hb0:=bel_trans hb0 hb2
    refine (C5.out _ _ _ (r1.keeps hb2) r2 H).mono ?_
    rintro _ y1 ⟨h,rfl,hv,hw1⟩
    go_wp2_with fail
    refine (C6.out _ _).mono ?_
    rintro _ wz ⟨rfl,hwz⟩
    replace hwz:=hwz.symm
    subst hwz
    go_wp2
    go_ret
    exact ⟨h,rfl,hv,bel_trans hb0 hw1⟩
def opL (p q r s:Int):Ls:=prS (dfL p q).d (dfL p q).n (dfL r s).d (dfL r s).n
def odL (ax ay bx by' cx cy:Int):Ls:=gaS ⟨(opL ax cx by' cy).n,(opL ax cx by' cy).d⟩ (fun i=>neg ((opL ay cy bx cx).d i)) (opL ay cy bx cx).n
theorem opL_all {p q r s:Int} (hp:Mz p) (hq:Mz q) (hr:Mz r) (hs:Mz s):prX (dfL p q).d (dfL p q).n (dfL r s).d (dfL r s).n=true∧XV (opL p q r s).d (opL p q r s).n∧(opL p q r s).n <= 8:=by
  obtain ⟨u1,u2,u3,u4⟩:=dfL_mid hp hq
  obtain ⟨v1,v2,v3,v4⟩:=dfL_mid hr hs
  obtain ⟨l1,l2,l3,l4⟩:=pr_all u1 u2 (by omega) v2 (by omega) (dfL r s).n (Nat.le_refl _)
  refine ⟨l1,l2,Nat.le_trans (prS_le _ _ _ _) ?_⟩
  have:2 * (dfL p q).n * (dfL r s).n <= 2 * 2 * 2:=Nat.mul_le_mul (by omega) (by omega)
  omega
theorem xProdO {p q r s:Int} (hp:Mz p) (hq:Mz q) (hr:Mz r) (hs:Mz s) {x y:Value} (w:World) (hx:XLs w x (dfL p q)) (hy:XLs w y (dfL r s)) (H:Hold4 w) :
    Calls Tryz.prog 50 #[x,y] w fun r' w'=>∃ o c',r'=.returned (.tuple #[.slice o (opL p q r s).n c',.int .i64 0])∧XLs w' (.slice o (opL p q r s).n c') (opL p q r s)∧Below w.heap.size w w':=by
  obtain ⟨xo,xc,rfl,hR⟩:=hx
  obtain ⟨yo,yc,rfl,hS⟩:=hy
  obtain ⟨u1,u2,u3,u4⟩:=dfL_mid hp hq
  obtain ⟨v1,v2,v3,v4⟩:=dfL_mid hr hs
  refine (xProduct w hR hS (fun i hi=>(u1.fin i hi).1) (fun i hi=>(v1.fin i hi).1) (xval_of u1) (xval_of v1) (by omega) (by omega) H).mono ?_
  intro r w' h
  obtain ⟨ao,cap,e,hQ,hb'⟩:=h.yes (opL_all hp hq hr hs).1
  exact ⟨ao,cap,e,⟨ao,cap,rfl,hQ⟩,hb'⟩
theorem odL_all {ax ay bx by' cx cy:Int} (hax:Mz ax) (hay:Mz ay) (hbx:Mz bx) (hby:Mz by') (hcx:Mz cx) (hcy:Mz cy):XV (odL ax ay bx by' cx cy).d (odL ax ay bx by' cx cy).n∧2 ^ 1074 * lsm (odL ax ay bx by' cx cy).d (odL ax ay bx by' cx cy).n=oDet ax ay bx by' cx cy:=by
  obtain ⟨_,_,_,_,_,h6,h7⟩:=det_mid hax hay hbx hby hcx hcy
  exact ⟨h6,h7⟩
theorem xDiffO {ax ay bx by' cx cy:Int} (hax:Mz ax) (hay:Mz ay) (hbx:Mz bx) (hby:Mz by') (hcx:Mz cx) (hcy:Mz cy) {x y:Value} (w:World) (hx:XLs w x (opL ax cx by' cy)) (hy:XLs w y (opL ay cy bx cx)) (H:Hold4 w) :
    Calls Tryz.prog 52 #[x,y] w fun r' w'=>∃ o c',r'=.returned (.tuple #[.slice o (odL ax ay bx by' cx cy).n c',.int .i64 0])∧XLs w' (.slice o (odL ax ay bx by' cx cy).n c') (odL ax ay bx by' cx cy)∧Below w.heap.size w w':=by
  obtain ⟨xo,xc,rfl,hR⟩:=hx
  obtain ⟨yo,yc,rfl,hS⟩:=hy
  obtain ⟨a1,a2,a3⟩:=opL_all hax hcx hby hcy
  obtain ⟨b1,b2,b3⟩:=opL_all hay hcy hbx hcx
  obtain ⟨_,_,_,_,h5,_,_⟩:=det_mid hax hay hbx hby hcx hcy
  refine (xDiff w hR hS (fun i hi=>(a2.fin i hi).1) (fun i hi=>(b2.fin i hi).1) (xval_of a2) (xval_of b2) (by omega) H).mono ?_
  intro r w' h
  obtain ⟨ao,cap,e,hQ,hb'⟩:=h.yes h5
  exact ⟨ao,cap,e,⟨ao,cap,rfl,hQ⟩,hb'⟩
def sgnF (s:Int):Int:=if s < 0 then -4616189618054758400 else if 0 < s then 4607182418800017408 else 0
theorem sgnF_facts {s:Int} (h:s=-1∨s=0∨s=1):rng (sgnF s)∧pok (sgnF s)=true∧sgP (sgnF s)=s:=by
  rcases h with rfl | rfl | rfl
  . exact ⟨by unfold rng; decide,by decide,by decide⟩
  . exact ⟨by unfold rng; decide,by decide,by decide⟩
  . exact ⟨by unfold rng; decide,by decide,by decide⟩
theorem ord_tri (x:Int):ord x 0=-1∨ord x 0=0∨ord x 0=1:=by
  unfold ord
  split
  . exact .inl rfl
  . split
    . exact .inr (.inr rfl)
    . exact .inr (.inl rfl)
theorem cv_sign {s:Int} (h:s=-1∨s=0∨s=1) (w:World):(convert 3 60 (.int .i64 s)).run Tryz.prog w=.ok (.float .f64 (wd (sgnF s))) w:=by
  rcases h with rfl | rfl | rfl
  . kernel_rfl
  . kernel_rfl
  . kernel_rfl
set_option maxRecDepth 100000 in
set_option maxHeartbeats 4000000 in
theorem oAllF {ax ay bx by' cx cy:Int} (hax:Mz ax) (hay:Mz ay) (hbx:Mz bx) (hby:Mz by') (hcx:Mz cx) (hcy:Mz cy) (w:World) (H:Hold4 w) :
    Calls Tryz.prog 32 #[.agg #[.float .f64 (wd (fsum ax (neg cx))),.float .f64 (wd (sL ax (neg cx))),.float .f64 (wd (fsum ay (neg cy))),.float .f64 (wd (sL ay (neg cy))),.float .f64 (wd (fsum bx (neg cx))),.float .f64 (wd (sL bx (neg cx))),.float .f64 (wd (fsum by' (neg cy))),.float .f64 (wd (sL by' (neg cy)))]] w fun r w'=>r=.returned (.float .f64 (wd (sgnF (ord (oDet ax ay bx by' cx cy) 0))))∧Below w.heap.size w w':=by
  have C1:Hid (∀ W,Calls Tryz.prog 51 #[.agg #[.float .f64 (wd (fsum ax (neg cx))),.float .f64 (wd (sL ax (neg cx)))]] W fun r w'=>∃ o c,r=.returned (.slice o (dfL ax cx).n c)∧XLs w' (.slice o (dfL ax cx).n c) (dfL ax cx)∧Below W.heap.size W w'):=fun W=>oParts hax hcx W
  have C2:Hid (∀ W,Calls Tryz.prog 51 #[.agg #[.float .f64 (wd (fsum ay (neg cy))),.float .f64 (wd (sL ay (neg cy)))]] W fun r w'=>∃ o c,r=.returned (.slice o (dfL ay cy).n c)∧XLs w' (.slice o (dfL ay cy).n c) (dfL ay cy)∧Below W.heap.size W w'):=fun W=>oParts hay hcy W
  have C3:Hid (∀ W,Calls Tryz.prog 51 #[.agg #[.float .f64 (wd (fsum bx (neg cx))),.float .f64 (wd (sL bx (neg cx)))]] W fun r w'=>∃ o c,r=.returned (.slice o (dfL bx cx).n c)∧XLs w' (.slice o (dfL bx cx).n c) (dfL bx cx)∧Below W.heap.size W w'):=fun W=>oParts hbx hcx W
  have C4:Hid (∀ W,Calls Tryz.prog 51 #[.agg #[.float .f64 (wd (fsum by' (neg cy))),.float .f64 (wd (sL by' (neg cy)))]] W fun r w'=>∃ o c,r=.returned (.slice o (dfL by' cy).n c)∧XLs w' (.slice o (dfL by' cy).n c) (dfL by' cy)∧Below W.heap.size W w'):=fun W=>oParts hby hcy W
  have M1:Hid (∀ (x y:Value) W,XLs W x (dfL ax cx)->XLs W y (dfL by' cy)->Hold4 W->Calls Tryz.prog 50 #[x,y] W fun r w'=>∃ o c',r=.returned (.tuple #[.slice o (opL ax cx by' cy).n c',.int .i64 0])∧XLs w' (.slice o (opL ax cx by' cy).n c') (opL ax cx by' cy)∧Below W.heap.size W w'):=fun x y W hx hy h=>xProdO hax hcx hby hcy W hx hy h
  have M2:Hid (∀ (x y:Value) W,XLs W x (dfL ay cy)->XLs W y (dfL bx cx)->Hold4 W->Calls Tryz.prog 50 #[x,y] W fun r w'=>∃ o c',r=.returned (.tuple #[.slice o (opL ay cy bx cx).n c',.int .i64 0])∧XLs w' (.slice o (opL ay cy bx cx).n c') (opL ay cy bx cx)∧Below W.heap.size W w'):=fun x y W hx hy h=>xProdO hay hcy hbx hcx W hx hy h
  have D1:Hid (∀ (x y:Value) W,XLs W x (opL ax cx by' cy)->XLs W y (opL ay cy bx cx)->Hold4 W->Calls Tryz.prog 52 #[x,y] W fun r w'=>∃ o c',r=.returned (.tuple #[.slice o (odL ax ay bx by' cx cy).n c',.int .i64 0])∧XLs w' (.slice o (odL ax ay bx by' cx cy).n c') (odL ax ay bx by' cx cy)∧Below W.heap.size W w'):=fun x y W hx hy h=>xDiffO hax hay hbx hby hcx hcy W hx hy h
  have S1:Hid (∀ (x:Value) W,XLs W x (odL ax ay bx by' cx cy)->Hold4 W->Calls Tryz.prog 53 #[x] W fun r w'=>r=.returned (.tuple #[.int .i64 (ord (oDet ax ay bx by' cx cy) 0),.int .i64 0])∧Below W.heap.size W w'):=fun x W hx h=>by
    obtain ⟨xv,xs⟩:=odL_all hax hay hbx hby hcx hcy
    have:=xSign W hx xv h
    rw [<- xs,Int.mul_comm,ord_mulP (p2 1074)]
    exact this
  have hcv:=fun W=>cv_sign (ord_tri (oDet ax ay bx by' cx cy)) W
  clear hax hay hbx hby hcx hcy
  generalize ord (oDet ax ay bx by' cx cy) 0=sgn at *
  generalize wd (sgnF sgn)=SF at *
  generalize wd (fsum ax (neg cx))=P1 at *
  generalize wd (sL ax (neg cx))=E1 at *
  generalize wd (fsum ay (neg cy))=P2 at *
  generalize wd (sL ay (neg cy))=E2 at *
  generalize wd (fsum bx (neg cx))=P3 at *
  generalize wd (sL bx (neg cx))=E3 at *
  generalize wd (fsum by' (neg cy))=P4 at *
  generalize wd (sL by' (neg cy))=E4 at *
  generalize dfL ax cx=d1 at *
  generalize dfL ay cy=d2 at *
  generalize dfL bx cx=d3 at *
  generalize dfL by' cy=d4 at *
  generalize opL ax cx by' cy=pl at *
  generalize opL ay cy bx cx=pr at *
  generalize odL ax ay bx by' cx cy=dd at *
  have b_k:=heap_a1 w (.cells #[.float .f64 P1,.float .f64 E1,.float .f64 P2,.float .f64 E2,.float .f64 P3,.float .f64 E3,.float .f64 P4,.float .f64 E4] 64)
  have hb0:=bel_alloc w (.cells #[.float .f64 P1,.float .f64 E1,.float .f64 P2,.float .f64 E2,.float .f64 P3,.float .f64 E3,.float .f64 P4,.float .f64 E4] 64)
  go_enter Tryz.func32,Tryz.ntmps32
  go_wp2_with fail
  generalize w.alloc (.cells #[.float .f64 P1,.float .f64 E1,.float .f64 P2,.float .f64 E2,.float .f64 P3,.float .f64 E3,.float .f64 P4,.float .f64 E4] 64)=x0 at b_k hb0 ⊢
  replace H:=H.keeps hb0
  have K1:∀ W,Below x0.heap.size x0 W->W.cell? ⟨w.heap.size,0,none⟩=some (.float .f64 P1)∧W.cell? ⟨w.heap.size,1,none⟩=some (.float .f64 E1)∧W.cell? ⟨w.heap.size,6,none⟩=some (.float .f64 P4)∧W.cell? ⟨w.heap.size,7,none⟩=some (.float .f64 E4):=fun W hb=>⟨q_cell (blkC b_k 0 rfl) hb,q_cell (blkC b_k 1 rfl) hb,q_cell (blkC b_k 6 rfl) hb,q_cell (blkC b_k 7 rfl) hb⟩
  have hC1_0:=(bel_refl x0).drew
  go_region_held3 (fun W=>W.cell? ⟨w.heap.size,0,none⟩=some (.float .f64 P1)∧W.cell? ⟨w.heap.size,1,none⟩=some (.float .f64 E1)∧W.cell? ⟨w.heap.size,6,none⟩=some (.float .f64 P4)∧W.cell? ⟨w.heap.size,7,none⟩=some (.float .f64 E4))
    (with_reducible first | assumption | exact K1 _ hC1_0 | exact K1 _ hC1_1 | exact K1 _ hC1_2 | exact K1 _ hC1_3 | fail)
    (first | (go_at_call 50; refine (M1.out _ _ _ (x1_1.keeps hq1_2) x1_2 (H.keeps hC1_2)).mono ?_; rintro _ y1_3 ⟨o1_3,c1_3,rfl,x1_3,hq1_3⟩; have hC1_3:=bel_trans hC1_2 hq1_3) | (go_at_call 51; have _t:=hq1_1; refine (C4.out _).mono ?_; rintro _ y1_2 ⟨o1_2,c1_2,rfl,x1_2,hq1_2⟩; have hC1_2:=bel_trans hC1_1 hq1_2) | (go_at_call 51; refine (C1.out _).mono ?_; rintro _ y1_1 ⟨o1_1,c1_1,rfl,x1_1,hq1_1⟩; have hC1_1:=bel_trans hC1_0 hq1_1))
  replace b_k:=blk_on hC1_3 b_k
  replace hb0:=bel_trans hb0 hC1_3
  replace H:=H.keeps hC1_3
  go_wp2_with fail
  have K2:∀ W,Below y1_3.heap.size y1_3 W->W.cell? ⟨w.heap.size,2,none⟩=some (.float .f64 P2)∧W.cell? ⟨w.heap.size,3,none⟩=some (.float .f64 E2)∧W.cell? ⟨w.heap.size,4,none⟩=some (.float .f64 P3)∧W.cell? ⟨w.heap.size,5,none⟩=some (.float .f64 E3):=fun W hb=>⟨q_cell (blkC b_k 2 rfl) hb,q_cell (blkC b_k 3 rfl) hb,q_cell (blkC b_k 4 rfl) hb,q_cell (blkC b_k 5 rfl) hb⟩
  have hC2_0:=(bel_refl y1_3).drew
  go_region_held3 (fun W=>W.cell? ⟨w.heap.size,2,none⟩=some (.float .f64 P2)∧W.cell? ⟨w.heap.size,3,none⟩=some (.float .f64 E2)∧W.cell? ⟨w.heap.size,4,none⟩=some (.float .f64 P3)∧W.cell? ⟨w.heap.size,5,none⟩=some (.float .f64 E3))
    (with_reducible first | assumption | exact K2 _ hC2_0 | exact K2 _ hC2_1 | exact K2 _ hC2_2 | exact K2 _ hC2_3 | fail)
    (first | (go_at_call 50; refine (M2.out _ _ _ (x2_1.keeps hq2_2) x2_2 (H.keeps hC2_2)).mono ?_; rintro _ y2_3 ⟨o2_3,c2_3,rfl,x2_3,hq2_3⟩; have hC2_3:=bel_trans hC2_2 hq2_3) | (go_at_call 51; have _t:=hq2_1; refine (C3.out _).mono ?_; rintro _ y2_2 ⟨o2_2,c2_2,rfl,x2_2,hq2_2⟩; have hC2_2:=bel_trans hC2_1 hq2_2) | (go_at_call 51; refine (C2.out _).mono ?_; rintro _ y2_1 ⟨o2_1,c2_1,rfl,x2_1,hq2_1⟩; have hC2_1:=bel_trans hC2_0 hq2_1))
  replace hb0:=bel_trans hb0 hC2_3
  replace H:=H.keeps hC2_3
  have xa:=x1_3.keeps hC2_3
  go_wp2_with fail
  refine (D1.out _ _ _ xa x2_3 H).mono ?_
  rintro _ y3 ⟨o3,c3,rfl,x3,hq3⟩
  replace H:=H.keeps hq3
  go_wp2_with fail
  refine (S1.out _ _ x3 H).mono ?_
  rintro _ y4 ⟨rfl,hq4⟩
  go_wp2
  go_ret
  exact ⟨rfl,bel_trans hb0 (bel_trans hq3 hq4)⟩
theorem o_fl0 (W:World):Calls Tryz.prog 26 #[.int .i64 0] W fun e w'=>e=.returned (.float .f64 0)∧w'=W:=by
  have:=bitsFloat 0 W
  rwa [show wd 0=0 by decide] at this
theorem o_fl1 (W:World):Calls Tryz.prog 26 #[.int .i64 4607182418800017408] W fun e w'=>e=.returned (.float .f64 4607182418800017408)∧w'=W:=by
  have:=bitsFloat 4607182418800017408 W
  rwa [show wd 4607182418800017408=4607182418800017408 by decide] at this
theorem o_abs0 (W:World):Calls Tryz.prog 27 #[.float .f64 9223372036854775808] W fun e w'=>e=.returned (.float .f64 0)∧w'=W:=by
  have:=mathAbs (b:=-9223372036854775808) (by unfold rng; omega) W
  rw [show wd (-9223372036854775808)=9223372036854775808 by decide,show rg (-9223372036854775808)=0 by decide,show wd 0=0 by decide] at this
  exact this
theorem o_abs1 (W:World):Calls Tryz.prog 27 #[.float .f64 13830554455654793216] W fun e w'=>e=.returned (.float .f64 4607182418800017408)∧w'=W:=by
  have:=mathAbs (b:=-4616189618054758400) (by unfold rng; omega) W
  rw [show wd (-4616189618054758400)=13830554455654793216 by decide,show rg (-4616189618054758400)=4607182418800017408 by decide,show wd 4607182418800017408=4607182418800017408 by decide] at this
  exact this
theorem o_abs2 (W:World):Calls Tryz.prog 27 #[.float .f64 4607182418800017408] W fun e w'=>e=.returned (.float .f64 4607182418800017408)∧w'=W:=by
  have:=mathAbs (b:=4607182418800017408) (by unfold rng; omega) W
  rw [show wd 4607182418800017408=4607182418800017408 by decide,show rg 4607182418800017408=4607182418800017408 by decide,show wd 4607182418800017408=4607182418800017408 by decide] at this
  exact this
theorem o_nan (x:Nat) (o:FloatKind.f64.format.order x x=some .eq) (W:World):Calls Tryz.prog 54 #[.float .f64 x] W fun e w'=>e=.returned (.bool false)∧w'=W:=by
  go_enter Tryz.func54,Tryz.ntmps54
  go_wp2
  go_ret
  exact ⟨b_ret_bool (by simp [o]),rfl⟩
theorem o_sign1 (W:World):Calls Tryz.prog 33 #[.float .f64 4607182418800017408,.float .f64 0] W fun e w'=>e=.returned (.int .i64 1)∧w'=W:=by
  have o:FloatKind.f64.format.order 4607182418800017408 0=some .gt:=by decide +kernel
  have C1:=fun W=>o_nan 4607182418800017408 (by decide +kernel) W
  have C0:=fun W=>o_nan 0 (by decide +kernel) W
  go_enter Tryz.func33,Tryz.ntmps33
  go_wp2_with fail
  refine (C1 _).mono ?_
  rintro _ _ ⟨rfl,rfl⟩
  go_wp2_with fail
  refine (C0 _).mono ?_
  rintro _ _ ⟨rfl,rfl⟩
  go_wp2
  go_ret
  exact ⟨rfl,rfl⟩
def oJ (s:Nat) (V S:Value) (a':Act):Prop:=∃ u:Nat->Value,a'={ tmps:=#[u 0,u 1,u 2,u 3,u 4,u 5,.pointer (some ⟨s + 1 + 1 + 1,0,none⟩),u 7,u 8,u 9,u 10,u 11,u 12,u 13,u 14,u 15,u 16,u 17,V,S,u 20,u 21,u 22,u 23,u 24,u 25,u 26,u 27,u 28,u 29,u 30,u 31,u 32,u 33,u 34,u 35,u 36,u 37,u 38,u 39,u 40,u 41,u 42,u 43,u 44,u 45,u 46,u 47,u 48,u 49,u 50,u 51,u 52,u 53,u 54,u 55,u 56,u 57,u 58,u 59,u 60,u 61,u 62,u 63,u 64,u 65,u 66,u 67,u 68,u 69,u 70,u 71,u 72,u 73,u 74,u 75,u 76,u 77,u 78,u 79,u 80,u 81,u 82,u 83,u 84,u 85,u 86,u 87,u 88,u 89,u 90,u 91,u 92,u 93,u 94,u 95,u 96,u 97,u 98,u 99,u 100,u 101],defers:=[] }
theorem oJ_of {s:Nat} {V S:Value} (t:Array Value) (h:#[t.getD 0 undef,t.getD 1 undef,t.getD 2 undef,t.getD 3 undef,t.getD 4 undef,t.getD 5 undef,.pointer (some ⟨s + 1 + 1 + 1,0,none⟩),t.getD 7 undef,t.getD 8 undef,t.getD 9 undef,t.getD 10 undef,t.getD 11 undef,t.getD 12 undef,t.getD 13 undef,t.getD 14 undef,t.getD 15 undef,t.getD 16 undef,t.getD 17 undef,V,S,t.getD 20 undef,t.getD 21 undef,t.getD 22 undef,t.getD 23 undef,t.getD 24 undef,t.getD 25 undef,t.getD 26 undef,t.getD 27 undef,t.getD 28 undef,t.getD 29 undef,t.getD 30 undef,t.getD 31 undef,t.getD 32 undef,t.getD 33 undef,t.getD 34 undef,t.getD 35 undef,t.getD 36 undef,t.getD 37 undef,t.getD 38 undef,t.getD 39 undef,t.getD 40 undef,t.getD 41 undef,t.getD 42 undef,t.getD 43 undef,t.getD 44 undef,t.getD 45 undef,t.getD 46 undef,t.getD 47 undef,t.getD 48 undef,t.getD 49 undef,t.getD 50 undef,t.getD 51 undef,t.getD 52 undef,t.getD 53 undef,t.getD 54 undef,t.getD 55 undef,t.getD 56 undef,t.getD 57 undef,t.getD 58 undef,t.getD 59 undef,t.getD 60 undef,t.getD 61 undef,t.getD 62 undef,t.getD 63 undef,t.getD 64 undef,t.getD 65 undef,t.getD 66 undef,t.getD 67 undef,t.getD 68 undef,t.getD 69 undef,t.getD 70 undef,t.getD 71 undef,t.getD 72 undef,t.getD 73 undef,t.getD 74 undef,t.getD 75 undef,t.getD 76 undef,t.getD 77 undef,t.getD 78 undef,t.getD 79 undef,t.getD 80 undef,t.getD 81 undef,t.getD 82 undef,t.getD 83 undef,t.getD 84 undef,t.getD 85 undef,t.getD 86 undef,t.getD 87 undef,t.getD 88 undef,t.getD 89 undef,t.getD 90 undef,t.getD 91 undef,t.getD 92 undef,t.getD 93 undef,t.getD 94 undef,t.getD 95 undef,t.getD 96 undef,t.getD 97 undef,t.getD 98 undef,t.getD 99 undef,t.getD 100 undef,t.getD 101 undef]=t):oJ s V S { tmps:=t,defers:=[] }:=⟨fun k=>t.getD k undef,by rw [h]⟩
set_option maxRecDepth 100000 in
set_option maxHeartbeats 1000000 in
theorem o_tameC (w:World) :
    Calls Tryz.prog 18 #[.agg #[.int .i64 0,.int .i64 0],.agg #[.int .i64 4607182418800017408,.int .i64 0],.agg #[.int .i64 0,.int .i64 4607182418800017408]] w fun e w'=>e=.returned (.agg #[.int .i64 1,.int .i64 1])∧Below w.heap.size w w':=by
  have hcv:=cv64
  have o:FloatKind.f64.format.order 4607182418800017408 4375247037990436868=some .gt:=by decide +kernel
  have h1:∀ w:World,(binOp .sub 60 (.float .f64 0) (.float .f64 0)).run Tryz.prog w=.ok (.float .f64 0) w:=fun w=>by kernel_rfl
  have h2:∀ w:World,(binOp .sub 60 (.float .f64 0) (.float .f64 4607182418800017408)).run Tryz.prog w=.ok (.float .f64 13830554455654793216) w:=fun w=>by kernel_rfl
  have h3:∀ w:World,(binOp .mul 60 (.float .f64 0) (.float .f64 13830554455654793216)).run Tryz.prog w=.ok (.float .f64 9223372036854775808) w:=fun w=>by kernel_rfl
  have h4:∀ w:World,(binOp .sub 60 (.float .f64 4607182418800017408) (.float .f64 0)).run Tryz.prog w=.ok (.float .f64 4607182418800017408) w:=fun w=>by kernel_rfl
  have h5:∀ w:World,(binOp .mul 60 (.float .f64 13830554455654793216) (.float .f64 4607182418800017408)).run Tryz.prog w=.ok (.float .f64 13830554455654793216) w:=fun w=>by kernel_rfl
  have h6:∀ w:World,(binOp .add 60 (.float .f64 0) (.float .f64 4607182418800017408)).run Tryz.prog w=.ok (.float .f64 4607182418800017408) w:=fun w=>by kernel_rfl
  have h7:∀ w:World,(binOp .sub 60 (.float .f64 9223372036854775808) (.float .f64 13830554455654793216)).run Tryz.prog w=.ok (.float .f64 4607182418800017408) w:=fun w=>by kernel_rfl
  have h8:∀ w:World,(binOp .mul 60 (.float .f64 4375247037990436868) (.float .f64 4607182418800017408)).run Tryz.prog w=.ok (.float .f64 4375247037990436868) w:=fun w=>by kernel_rfl
  go_enter Tryz.func18,Tryz.ntmps18
  have a_k:=heap_past (.cells #[.float .f64 0,.float .f64 0,.float .f64 0,.float .f64 0,.float .f64 0,.float .f64 0,.float .f64 0,.float .f64 0] 64) (h4_0 w (.cells #[.int .i64 0,.int .i64 0] 23) (.cells #[.int .i64 4607182418800017408,.int .i64 0] 23) (.cells #[.int .i64 0,.int .i64 4607182418800017408] 23) (.cells #[.int .i64 0,.int .i64 0] 26))
  have b_k:=heap_past (.cells #[.float .f64 0,.float .f64 0,.float .f64 0,.float .f64 0,.float .f64 0,.float .f64 0,.float .f64 0,.float .f64 0] 64) (h4_1 w (.cells #[.int .i64 0,.int .i64 0] 23) (.cells #[.int .i64 4607182418800017408,.int .i64 0] 23) (.cells #[.int .i64 0,.int .i64 4607182418800017408] 23) (.cells #[.int .i64 0,.int .i64 0] 26))
  have c_k:=heap_past (.cells #[.float .f64 0,.float .f64 0,.float .f64 0,.float .f64 0,.float .f64 0,.float .f64 0,.float .f64 0,.float .f64 0] 64) (h4_2 w (.cells #[.int .i64 0,.int .i64 0] 23) (.cells #[.int .i64 4607182418800017408,.int .i64 0] 23) (.cells #[.int .i64 0,.int .i64 4607182418800017408] 23) (.cells #[.int .i64 0,.int .i64 0] 26))
  have r_k:=heap_past (.cells #[.float .f64 0,.float .f64 0,.float .f64 0,.float .f64 0,.float .f64 0,.float .f64 0,.float .f64 0,.float .f64 0] 64) (h4_3 w (.cells #[.int .i64 0,.int .i64 0] 23) (.cells #[.int .i64 4607182418800017408,.int .i64 0] 23) (.cells #[.int .i64 0,.int .i64 4607182418800017408] 23) (.cells #[.int .i64 0,.int .i64 0] 26))
  have hb0:=bel_trans (bel_a4 w (.cells #[.int .i64 0,.int .i64 0] 23) (.cells #[.int .i64 4607182418800017408,.int .i64 0] 23) (.cells #[.int .i64 0,.int .i64 4607182418800017408] 23) (.cells #[.int .i64 0,.int .i64 0] 26)) (bel_alloc _ (.cells #[.float .f64 0,.float .f64 0,.float .f64 0,.float .f64 0,.float .f64 0,.float .f64 0,.float .f64 0,.float .f64 0] 64))
  go_wp2
  refine wp_scope_jumps 0 (fun a' w'=>Below w.heap.size w w'∧w'.heap[w.heap.size + 3]?=some (.cells #[.int .i64 0,.int .i64 0] 26 (0,0))∧oJ w.heap.size (.float .f64 4607182418800017408) (.int .i64 1) a') (fun _ _=>0) rfl ?_ ?_
  . go_wp2_with fail
    generalize ((((w.alloc (.cells #[.int .i64 0,.int .i64 0] 23)).alloc (.cells #[.int .i64 4607182418800017408,.int .i64 0] 23)).alloc (.cells #[.int .i64 0,.int .i64 4607182418800017408] 23)).alloc (.cells #[.int .i64 0,.int .i64 0] 26)).alloc (.cells #[.float .f64 0,.float .f64 0,.float .f64 0,.float .f64 0,.float .f64 0,.float .f64 0,.float .f64 0,.float .f64 0] 64)=x0 at a_k b_k c_k r_k hb0 ⊢
    have K0:x0.cell? ⟨w.heap.size,0,none⟩=some (.int .i64 0)∧x0.cell? ⟨w.heap.size,1,none⟩=some (.int .i64 0)∧x0.cell? ⟨w.heap.size + 1,0,none⟩=some (.int .i64 4607182418800017408)∧x0.cell? ⟨w.heap.size + 1,1,none⟩=some (.int .i64 0)∧x0.cell? ⟨w.heap.size + 2,0,none⟩=some (.int .i64 0)∧x0.cell? ⟨w.heap.size + 2,1,none⟩=some (.int .i64 4607182418800017408):=⟨blkC a_k 0 rfl,blkC a_k 1 rfl,blkC b_k 0 rfl,blkC b_k 1 rfl,blkC c_k 0 rfl,blkC c_k 1 rfl⟩
    clear a_k b_k c_k
    go_region_held3 (fun W=>W.cell? ⟨w.heap.size,0,none⟩=some (.int .i64 0)∧W.cell? ⟨w.heap.size,1,none⟩=some (.int .i64 0)∧W.cell? ⟨w.heap.size + 1,0,none⟩=some (.int .i64 4607182418800017408)∧W.cell? ⟨w.heap.size + 1,1,none⟩=some (.int .i64 0)∧W.cell? ⟨w.heap.size + 2,0,none⟩=some (.int .i64 0)∧W.cell? ⟨w.heap.size + 2,1,none⟩=some (.int .i64 4607182418800017408))
      (first | assumption | exact K0)
      (first
        | (go_at_call 26; first | (refine (o_fl0 _).mono ?_; rintro _ _ ⟨rfl,rfl⟩) | (refine (o_fl1 _).mono ?_; rintro _ _ ⟨rfl,rfl⟩)))
    clear K0
    go_wp2_with fail
    refine (o_abs0 _).mono ?_
    rintro _ _ ⟨rfl,rfl⟩
    go_wp2_with fail
    refine (o_abs1 _).mono ?_
    rintro _ _ ⟨rfl,rfl⟩
    go_wp2_with fail
    refine (o_abs2 _).mono ?_
    rintro _ _ ⟨rfl,rfl⟩
    go_wp2_with fail
    go_step3
    simp only [Exit.then,Exit.jump]
    exact ⟨rfl,hb0.drew,r_k,oJ_of _ (by kernel_rfl)⟩
  . rintro a' w' ⟨hb,hr,u,rfl⟩
    go_wp2_with fail
    refine (o_sign1 _).mono ?_
    rintro _ _ ⟨rfl,rfl⟩
    have k0:=blkC hr 0 rfl
    have k1:=blkC hr 1 rfl
    have z0:=blkF hr 0
    have z1:=blkF hr 1
    have q:=heap_set (heap_set hr 0 (.int .i64 1)) 1 (.int .i64 1)
    have e0:=blkC q 0 rfl
    have e1:=blkC q 1 rfl
    go_wp2
    simp only [Exit.jump]
    refine bodyPost_ret (v:=.agg #[.int .i64 1,.int .i64 1]) (by simp [results,Tryz.results18,go_sem,e0,e1]) rfl ⟨rfl,(hb.setCell (p:=⟨w.heap.size + 3,0,none⟩) (by show _ <= _ + 3; omega) _).setCell (p:=⟨w.heap.size + 3,1,none⟩) (by show _ <= _ + 3; omega) _⟩
theorem o_tame {x y:Int} (hx:rng x) (hy:rng y) (w:World) :
    Calls Tryz.prog 17 #[.agg #[.int .i64 x,.int .i64 y]] w fun e w'=>e=.returned (.bool (tame x && tame y))∧Below w.heap.size w w':=by
  cases h1:tame x <;> cases h2:tame y
  all_goals
    go_enter Tryz.func17,Tryz.ntmps17
    go_wp2_with fail
    refine (pointTame hx _).mono ?_
    rintro _ _ ⟨rfl,rfl⟩
    go_wp2_with (go_at_call 25; refine (pointTame hy _).mono ?_; rintro _ _ ⟨rfl,rfl⟩)
    go_ret
    exact ⟨b_ret_bool (by simp [h1,h2]),bel_alloc _ _⟩
set_option maxRecDepth 100000 in
set_option maxHeartbeats 1000000 in
theorem o_signC (w:World) :
    Calls Tryz.prog 8 #[.agg #[.int .i64 0,.int .i64 0],.agg #[.int .i64 4607182418800017408,.int .i64 0],.agg #[.int .i64 0,.int .i64 4607182418800017408]] w fun e w'=>e=.returned (.tuple #[.agg #[.int .i64 1,.int .i64 1],.int .i64 0])∧Below w.heap.size w w':=by
  have r0:rng 0:=by unfold rng; omega
  have r1:rng 4607182418800017408:=by unfold rng; omega
  have C1:Hid (∀ W,Calls Tryz.prog 17 #[.agg #[.int .i64 0,.int .i64 0]] W fun e w'=>e=.returned (.bool true)∧Below W.heap.size W w'):=fun W=>o_tame r0 r0 W
  have C2:Hid (∀ W,Calls Tryz.prog 17 #[.agg #[.int .i64 4607182418800017408,.int .i64 0]] W fun e w'=>e=.returned (.bool true)∧Below W.heap.size W w'):=fun W=>o_tame r1 r0 W
  have C3:Hid (∀ W,Calls Tryz.prog 17 #[.agg #[.int .i64 0,.int .i64 4607182418800017408]] W fun e w'=>e=.returned (.bool true)∧Below W.heap.size W w'):=fun W=>o_tame r0 r1 W
  have CV:=fun W=>o_tameC W
  have a_k:=h4_0 w (.cells #[.int .i64 0,.int .i64 0] 23) (.cells #[.int .i64 4607182418800017408,.int .i64 0] 23) (.cells #[.int .i64 0,.int .i64 4607182418800017408] 23) (.cells #[.int .i64 0,.int .i64 0] 26)
  have b_k:=h4_1 w (.cells #[.int .i64 0,.int .i64 0] 23) (.cells #[.int .i64 4607182418800017408,.int .i64 0] 23) (.cells #[.int .i64 0,.int .i64 4607182418800017408] 23) (.cells #[.int .i64 0,.int .i64 0] 26)
  have c_k:=h4_2 w (.cells #[.int .i64 0,.int .i64 0] 23) (.cells #[.int .i64 4607182418800017408,.int .i64 0] 23) (.cells #[.int .i64 0,.int .i64 4607182418800017408] 23) (.cells #[.int .i64 0,.int .i64 0] 26)
  have r_k:=h4_3 w (.cells #[.int .i64 0,.int .i64 0] 23) (.cells #[.int .i64 4607182418800017408,.int .i64 0] 23) (.cells #[.int .i64 0,.int .i64 4607182418800017408] 23) (.cells #[.int .i64 0,.int .i64 0] 26)
  have hb0:=bel_a4 w (.cells #[.int .i64 0,.int .i64 0] 23) (.cells #[.int .i64 4607182418800017408,.int .i64 0] 23) (.cells #[.int .i64 0,.int .i64 4607182418800017408] 23) (.cells #[.int .i64 0,.int .i64 0] 26)
  go_enter Tryz.func8,Tryz.ntmps8
  go_wp2_with fail
  generalize (((w.alloc (.cells #[.int .i64 0,.int .i64 0] 23)).alloc (.cells #[.int .i64 4607182418800017408,.int .i64 0] 23)).alloc (.cells #[.int .i64 0,.int .i64 4607182418800017408] 23)).alloc (.cells #[.int .i64 0,.int .i64 0] 26)=x0 at a_k b_k c_k r_k hb0 ⊢
  refine (C1.out _).mono ?_
  rintro _ y1 ⟨rfl,hw1⟩
  have a_k:=(hw1.block _ (Array.getElem?_eq_some_iff.1 a_k).1).trans a_k
  have b_k:=(hw1.block _ (Array.getElem?_eq_some_iff.1 b_k).1).trans b_k
  have c_k:=(hw1.block _ (Array.getElem?_eq_some_iff.1 c_k).1).trans c_k
  have r_k:=(hw1.block _ (Array.getElem?_eq_some_iff.1 r_k).1).trans r_k
  have f0:=blkC b_k 0 rfl
  have f1:=blkC b_k 1 rfl
  go_wp2_with fail
  refine (C2.out _).mono ?_
  rintro _ y2 ⟨rfl,hw2⟩
  have a_k:=(hw2.block _ (Array.getElem?_eq_some_iff.1 a_k).1).trans a_k
  have b_k:=(hw2.block _ (Array.getElem?_eq_some_iff.1 b_k).1).trans b_k
  have c_k:=(hw2.block _ (Array.getElem?_eq_some_iff.1 c_k).1).trans c_k
  have r_k:=(hw2.block _ (Array.getElem?_eq_some_iff.1 r_k).1).trans r_k
  have f0:=blkC c_k 0 rfl
  have f1:=blkC c_k 1 rfl
  go_wp2_with fail
  refine (C3.out _).mono ?_
  rintro _ y3 ⟨rfl,hw3⟩
  have a_k:=(hw3.block _ (Array.getElem?_eq_some_iff.1 a_k).1).trans a_k
  have b_k:=(hw3.block _ (Array.getElem?_eq_some_iff.1 b_k).1).trans b_k
  have c_k:=(hw3.block _ (Array.getElem?_eq_some_iff.1 c_k).1).trans c_k
  have r_k:=(hw3.block _ (Array.getElem?_eq_some_iff.1 r_k).1).trans r_k
  have f0:=blkC a_k 0 rfl
  have f1:=blkC a_k 1 rfl
  have f2:=blkC b_k 0 rfl
  have f3:=blkC b_k 1 rfl
  have f4:=blkC c_k 0 rfl
  have f5:=blkC c_k 1 rfl
  go_wp2_with fail
  refine (CV _).mono ?_
  rintro _ y4 ⟨rfl,hw4⟩
  have r_k:=(hw4.block _ (Array.getElem?_eq_some_iff.1 r_k).1).trans r_k
  have k0:=blkC r_k 0 rfl
  have k1:=blkC r_k 1 rfl
  have z0:=blkF r_k 0
  have z1:=blkF r_k 1
  have q:=heap_set (heap_set r_k 0 (.int .i64 1)) 1 (.int .i64 1)
  have e0:=blkC q 0 rfl
  have e1:=blkC q 1 rfl
  have hb:=bel_trans hb0 (bel_trans hw1 (bel_trans hw2 (bel_trans hw3 hw4)))
  go_wp2
  refine bodyPost_ret (v:=.tuple #[.agg #[.int .i64 1,.int .i64 1],.int .i64 0]) (by simp [results,Tryz.results8,go_sem,e0,e1]) rfl ⟨rfl,(hb.setCell (p:=⟨w.heap.size + 3,0,none⟩) (by show _ <= _ + 3; omega) _).setCell (p:=⟨w.heap.size + 3,1,none⟩) (by show _ <= _ + 3; omega) _⟩
theorem onum (x:Int) (w:World) :
    Calls Tryz.prog 10 #[.int .i64 x] w fun e w'=>e=.returned (.int .i64 x)∧w'=w:=by
  go_enter Tryz.func10,Tryz.ntmps10
  go_wp2
  go_ret
  exact ⟨b_ret_int (by first | rfl | omega),rfl⟩
set_option maxRecDepth 100000 in
theorem alive10 (w:World):Calls Tryz.prog 7 #[] w fun e w'=>e=.returned (.bool true)∧Below w.heap.size w w':=by
  have CV:=fun W=>o_signC W
  go_enter Tryz.func7,Tryz.ntmps7
  go_wp2_with fail
  refine (CV _).mono ?_
  rintro _ w1 ⟨rfl,hb1⟩
  have hba:=bel_alloc w1 (.cells #[.int .i64 1,.int .i64 1] 26)
  have hg:=heap_a1 w1 (.cells #[.int .i64 1,.int .i64 1] 26)
  have c0:=blkC hg 0 rfl
  have c1:=blkC hg 1 rfl
  go_wp2_with (go_at_call 10; refine (onum _ _).mono ?_; rintro _ _ ⟨rfl,rfl⟩)
  all_goals go_ret
  all_goals exact ⟨rfl,by first | exact bel_trans hb1 hba | exact (bel_trans hb1 hba).drew⟩
def oJc (s:Nat) (sgn k:Int) (a':Act):Prop:=∃ X,(∀ W,Calls Tryz.prog 33 #[.float .f64 X,.float .f64 0] W fun r w'=>r=.returned (.int .i64 sgn)∧w'=W)∧oJ s (.float .f64 X) (.int .i64 k) a'
theorem heap_other8 {W:World} {g g':Nat} {o:Obj} (h:W.heap[g']?=some o) (hg:g' ≠ g) (x0 x1 x2 x3 x4 x5 x6 x7:Value):((((((((W.setCell ⟨g,0,none⟩ x0).setCell ⟨g,1,none⟩ x1).setCell ⟨g,2,none⟩ x2).setCell ⟨g,3,none⟩ x3).setCell ⟨g,4,none⟩ x4).setCell ⟨g,5,none⟩ x5).setCell ⟨g,6,none⟩ x6).setCell ⟨g,7,none⟩ x7).heap[g']?=some o :=
  ((((((((((Wr.refl g W).setCell 0 x0).setCell 1 x1).setCell 2 x2).setCell 3 x3).setCell 4 x4).setCell 5 x5).setCell 6 x6).setCell 7 x7).block _ (Array.getElem?_eq_some_iff.1 h).1 hg).trans h
set_option maxRecDepth 100000 in
set_option maxHeartbeats 8000000 in
theorem oTv1 {ax ay bx by' cx cy  sgn:Int} {AX AY BX BY CX CY U1 V1 U2 V2 LW RW LA RA SW DW DA AS:Nat}
    (F1:(∀ W,Calls Tryz.prog 26 #[.int .i64 ax] W fun e w'=>e=.returned (.float .f64 AX)∧w'=W))
    (F2:(∀ W,Calls Tryz.prog 26 #[.int .i64 ay] W fun e w'=>e=.returned (.float .f64 AY)∧w'=W))
    (F3:(∀ W,Calls Tryz.prog 26 #[.int .i64 bx] W fun e w'=>e=.returned (.float .f64 BX)∧w'=W))
    (F4:(∀ W,Calls Tryz.prog 26 #[.int .i64 by'] W fun e w'=>e=.returned (.float .f64 BY)∧w'=W))
    (F5:(∀ W,Calls Tryz.prog 26 #[.int .i64 cx] W fun e w'=>e=.returned (.float .f64 CX)∧w'=W))
    (F6:(∀ W,Calls Tryz.prog 26 #[.int .i64 cy] W fun e w'=>e=.returned (.float .f64 CY)∧w'=W))
    (s1:(∀ W,(binOp .sub 60 (.float .f64 AX) (.float .f64 CX)).run Tryz.prog W=.ok (.float .f64 U1) W))
    (s2:(∀ W,(binOp .sub 60 (.float .f64 BY) (.float .f64 CY)).run Tryz.prog W=.ok (.float .f64 V2) W))
    (m1:(∀ W,(binOp .mul 60 (.float .f64 U1) (.float .f64 V2)).run Tryz.prog W=.ok (.float .f64 LW) W))
    (s3:(∀ W,(binOp .sub 60 (.float .f64 AY) (.float .f64 CY)).run Tryz.prog W=.ok (.float .f64 V1) W))
    (s4:(∀ W,(binOp .sub 60 (.float .f64 BX) (.float .f64 CX)).run Tryz.prog W=.ok (.float .f64 U2) W))
    (m2:(∀ W,(binOp .mul 60 (.float .f64 V1) (.float .f64 U2)).run Tryz.prog W=.ok (.float .f64 RW) W))
    (A1:(∀ W,Calls Tryz.prog 27 #[.float .f64 LW] W fun e w'=>e=.returned (.float .f64 LA)∧w'=W))
    (A2:(∀ W,Calls Tryz.prog 27 #[.float .f64 RW] W fun e w'=>e=.returned (.float .f64 RA)∧w'=W))
    (p1:(∀ W,(binOp .add 60 (.float .f64 LA) (.float .f64 RA)).run Tryz.prog W=.ok (.float .f64 SW) W))
    (s5:(∀ W,(binOp .sub 60 (.float .f64 LW) (.float .f64 RW)).run Tryz.prog W=.ok (.float .f64 DW) W))
    (A3:(∀ W,Calls Tryz.prog 27 #[.float .f64 DW] W fun e w'=>e=.returned (.float .f64 DA)∧w'=W))
    (m3:(∀ W,(binOp .mul 60 (.float .f64 4375247037990436868) (.float .f64 SW)).run Tryz.prog W=.ok (.float .f64 AS) W))
    (o1:(FloatKind.f64.format.order DA AS=some .gt∨FloatKind.f64.format.order DA AS=some .eq))
    (CC:(∀ W,Calls Tryz.prog 33 #[.float .f64 DW,.float .f64 0] W fun r w'=>r=.returned (.int .i64 sgn)∧w'=W))
    (w:World) (H:Hold4 w) :
    Calls Tryz.prog 18 #[.agg #[.int .i64 ax,.int .i64 ay],.agg #[.int .i64 bx,.int .i64 by'],.agg #[.int .i64 cx,.int .i64 cy]] w fun r w'=>r=.returned (.agg #[.int .i64 sgn,.int .i64 1])∧Below w.heap.size w w':=by
  have hF1:Hid (∀ W,Calls Tryz.prog 26 #[.int .i64 ax] W fun e w'=>e=.returned (.float .f64 AX)∧w'=W):=F1
  clear F1
  have hF2:Hid (∀ W,Calls Tryz.prog 26 #[.int .i64 ay] W fun e w'=>e=.returned (.float .f64 AY)∧w'=W):=F2
  clear F2
  have hF3:Hid (∀ W,Calls Tryz.prog 26 #[.int .i64 bx] W fun e w'=>e=.returned (.float .f64 BX)∧w'=W):=F3
  clear F3
  have hF4:Hid (∀ W,Calls Tryz.prog 26 #[.int .i64 by'] W fun e w'=>e=.returned (.float .f64 BY)∧w'=W):=F4
  clear F4
  have hF5:Hid (∀ W,Calls Tryz.prog 26 #[.int .i64 cx] W fun e w'=>e=.returned (.float .f64 CX)∧w'=W):=F5
  clear F5
  have hF6:Hid (∀ W,Calls Tryz.prog 26 #[.int .i64 cy] W fun e w'=>e=.returned (.float .f64 CY)∧w'=W):=F6
  clear F6
  have hA1:Hid (∀ W,Calls Tryz.prog 27 #[.float .f64 LW] W fun e w'=>e=.returned (.float .f64 LA)∧w'=W):=A1
  clear A1
  have hA2:Hid (∀ W,Calls Tryz.prog 27 #[.float .f64 RW] W fun e w'=>e=.returned (.float .f64 RA)∧w'=W):=A2
  clear A2
  have hA3:Hid (∀ W,Calls Tryz.prog 27 #[.float .f64 DW] W fun e w'=>e=.returned (.float .f64 DA)∧w'=W):=A3
  clear A3
  have hCC:Hid (∀ W,Calls Tryz.prog 33 #[.float .f64 DW,.float .f64 0] W fun r w'=>r=.returned (.int .i64 sgn)∧w'=W):=CC
  clear CC
  have hst:∀ p x m w,(store p (.float .f64 x) m).run Tryz.prog w=stored Tryz.prog w p (.float .f64 x) m:=fun p x m w=>run_store _ w p _ m rfl
  rcases o1 with o1 | o1
  all_goals
    obtain ⟨hb0,a_k,b_k,c_k,r_k,f_k,hsz0⟩:=blks5 w (.cells #[.int .i64 ax,.int .i64 ay] 23) (.cells #[.int .i64 bx,.int .i64 by'] 23) (.cells #[.int .i64 cx,.int .i64 cy] 23) (.cells #[.int .i64 0,.int .i64 0] 26) (.cells #[.float .f64 0,.float .f64 0,.float .f64 0,.float .f64 0,.float .f64 0,.float .f64 0,.float .f64 0,.float .f64 0] 64)
    clear hsz0
    go_enter Tryz.func18,Tryz.ntmps18
    go_wp2
    refine wp_scope_jumps 0 (fun a' w'=>Below w.heap.size w w'∧w'.heap[w.heap.size + 1 + 1 + 1]?=some (.cells #[.int .i64 0,.int .i64 0] 26 (0,0))∧oJc w.heap.size sgn 1 a') (fun _ _=>0) rfl ?_ ?_
    . go_wp2_with fail
      generalize ((((w.alloc (.cells #[.int .i64 ax,.int .i64 ay] 23)).alloc (.cells #[.int .i64 bx,.int .i64 by'] 23)).alloc (.cells #[.int .i64 cx,.int .i64 cy] 23)).alloc (.cells #[.int .i64 0,.int .i64 0] 26)).alloc (.cells #[.float .f64 0,.float .f64 0,.float .f64 0,.float .f64 0,.float .f64 0,.float .f64 0,.float .f64 0,.float .f64 0] 64)=x0 at hb0 a_k b_k c_k r_k f_k ⊢
      have f_a0:=blkC a_k 0 rfl
      have f_a1:=blkC a_k 1 rfl
      have f_b0:=blkC b_k 0 rfl
      have f_b1:=blkC b_k 1 rfl
      have f_c0:=blkC c_k 0 rfl
      have f_c1:=blkC c_k 1 rfl
      go_quiet (first | (go_at_call 26; with_reducible exact Calls.quiet_of_same (hF1.out _)) | (go_at_call 26; with_reducible exact Calls.quiet_of_same (hF2.out _)) | (go_at_call 26; with_reducible exact Calls.quiet_of_same (hF3.out _)) | (go_at_call 26; with_reducible exact Calls.quiet_of_same (hF4.out _)) | (go_at_call 26; with_reducible exact Calls.quiet_of_same (hF5.out _)) | (go_at_call 26; with_reducible exact Calls.quiet_of_same (hF6.out _)))
      go_wp2_with fail
      clear f_a0 f_a1 f_b0 f_b1 f_c0 f_c1
      have hd:=bDrewN (bel_refl x0) nq
      replace a_k:=blk_on hd a_k
      replace b_k:=blk_on hd b_k
      replace c_k:=blk_on hd c_k
      replace r_k:=blk_on hd r_k
      replace f_k:=blk_on hd f_k
      replace hb0:=bel_trans hb0 hd
      replace H:=H.keeps hb0
      generalize x0.drewN nq=x1 at hb0 H a_k b_k c_k r_k f_k ⊢
      clear hd
      refine (hA1.out _).mono ?_
      rintro _ wz ⟨rfl,hwz⟩
      replace hwz:=hwz.symm
      subst hwz
      go_wp2_with fail
      refine (hA2.out _).mono ?_
      rintro _ wz ⟨rfl,hwz⟩
      replace hwz:=hwz.symm
      subst hwz
      go_wp2_with fail
      refine (hA3.out _).mono ?_
      rintro _ wz ⟨rfl,hwz⟩
      replace hwz:=hwz.symm
      subst hwz
      go_wp2_with fail
      go_step3
      simp only [Exit.then,Exit.jump]
      exact ⟨rfl,hb0,r_k,DW,hCC.out,oJ_of _ (by kernel_rfl)⟩
    . rintro a' w' ⟨hb,hr,X,hX,u,rfl⟩
      have HX:Hid (∀ W,Calls Tryz.prog 33 #[.float .f64 X,.float .f64 0] W fun r w'=>r=.returned (.int .i64 sgn)∧w'=W):=hX
      clear hX
      go_wp2_with fail
      refine (HX.out _).mono ?_
      rintro _ wz ⟨rfl,hwz⟩
      replace hwz:=hwz.symm
      subst hwz
      have k0:=blkC hr 0 rfl
      have k1:=blkC hr 1 rfl
      have z0:=blkF hr 0
      have z1:=blkF hr 1
      have q:=heap_set (heap_set hr 0 (.int .i64 sgn)) 1 (.int .i64 1)
      have e0:=blkC q 0 rfl
      have e1:=blkC q 1 rfl
      go_wp2
      simp only [Exit.jump]
      refine bodyPost_ret (v:=.agg #[.int .i64 sgn,.int .i64 1]) (by simp [results,Tryz.results18,go_sem,e0,e1]) rfl ⟨rfl,(hb.setCell (p:=⟨w.heap.size + 1 + 1 + 1,0,none⟩) (by show _ <= _ + 1 + 1 + 1; omega) _).setCell (p:=⟨w.heap.size + 1 + 1 + 1,1,none⟩) (by show _ <= _ + 1 + 1 + 1; omega) _⟩
end Go.Proofs.YtafnigjehkpggaaGreatDoor
