/- Parts of the proof. -/
import Derived.Test.YtcjfonaolcokbaaGreatDoorPart13
set_option maxRecDepth 100000
set_option maxHeartbeats 8000000
set_option linter.unusedVariables false
set_option linter.unusedSimpArgs false
namespace Go.Proofs.YtcjfonaolcokbaaGreatDoor
open Go Go.RowKit Go.Proofs.YtcjfonaolcokbaaGreatDoor.M
theorem q9 {u v:Int} (h1:Fx 872 1226 u) (h2:Fx 872 1226 v):ak (bm u v)=true∧∃ T,2^1074*T=iV u*iV v∧iV (aq u v)+iV (bm u v)=T:=by
 obtain ⟨q,_,T,hT,hU⟩:=h1.prod h2 (by decide) (by decide) (by decide)
 have hm:=fY
 have e:(2:Int)^1254=268435456*2^1226:=by
  rw [show (1254:Nat)=28+1226 by decide,Int.pow_add]
  congr 1
 have l:(2:Int)^1254<=2^2097:=eY (by decide)
 have pp:=p2 1226
 have s1:=yj h1.r h1.p h1.b (by omega)
 have s2:=yj h2.r h2.p h2.b (by omega)
 have hb:=q.b
 have hd:=wC hU
 have hu:=hU.1
 have pk:ak (bm u v)=true:=by
  refine yt h1.r h2.r s1 s2 q.p hT ?_
  have l2:(2:Int)^1381<=2^2097:=eY (by decide)
  have e2:(2:Int)^1380=2*2^1379:=cX 1379
  have e3:(2:Int)^1381=2*2^1380:=cX 1380
  have hb':((iV (aq u v)).natAbs:Int)<=2^1379:=hb
  generalize (2:Int)^1379=X at *
  generalize (2:Int)^1380=Y at *
  generalize (2:Int)^1381=Z at *
  generalize (2:Int)^2097=M at *
  clear e l pp s1 s2 hb hT
  omega
 exact ⟨pk,T,hT,(vM h1.r h2.r pk hT).2.2⟩
theorem AZ {q x y:Int} (hq:0<q) (h:q*x=q*y):x=y:=Int.eq_of_mul_eq_mul_left (Int.ne_of_gt hq) h
theorem Ng {u1 v1 u2 v2:Int} (h1:Fx 872 1226 u1) (h2:Fx 872 1226 v1) (h3:Fx 872 1226 u2) (h4:Fx 872 1226 v2) (he:iV (aq u1 v2)=iV (aq v1 u2)) :
  dG (hT u1 v1 u2 v2) (ap (bm u1 v2) (neg (bm v1 u2))):=by
 obtain ⟨p1,T1,e1,x1⟩:=q9 h1 h4
 obtain ⟨p2',T2,e2,x2⟩:=q9 h2 h3
 have r1:=dU h1.r h4.r
 have r2:=dU h2.r h3.r
 obtain ⟨n1,n2,n3⟩:=bS r2 p2'
 have hq:=p2 1074
 have eT:hT u1 v1 u2 v2=T1-T2:=by
  refine AZ hq ?_
  rw [uf h1 h2 h3 h4,Int.mul_sub,e1,e2]
 have eS:iV (bm u1 v2)+iV (neg (bm v1 u2))=hT u1 v1 u2 v2:=by rw [eT,n3]; omega
 have s:=eI r1 n1 p1 n2
 rw [eS] at s
 have hb:=Cc h1 h2 h3 h4
 have pk:=s.fin (Int.le_trans (Int.le_trans hb (eY (by decide))) fY)
 refine ⟨s.rn,pk,?_⟩
 rw [mF r1 n1 p1 n2,eS]
theorem Kc {a b:Int} (ha:aj a) (hb:aj b) (h:au a=au b):rg a=rg b:=by
 have p:=(fQ ha).2
 have q:=(fQ hb).2
 rw [mD ha,mD hb] at h
 split at h <;> split at h <;> omega
theorem Kd {x:aL} {T:Int} (ok:cB x=true) (hV:x.V=T*pw (-1074)) (hb:(T.natAbs:Int)<=2^1379):dG T (iw 0 x).1:=by
 have s:=AV T
 have pk:=s.fin (Int.le_trans (Int.le_trans hb (eY (by decide))) fY)
 have hR:=Mq ok
 have r1:=Dv ok 0
 have hs:de (fN T) (iw 0 x).1=true:=by
  refine Ec (g:=false) (f:=fun way=>iw way x) hR ?_
  rw [hV]
  by_cases c:T=0
  ·exact .inl ⟨by rw [c,Int.zero_mul],by rw [c]; decide⟩
  ·refine .inr ⟨Gh (bD _) c,?_⟩
   unfold fN; rw [if_neg c]
 unfold de at hs
 simp only [Bool.and_eq_true,Bool.not_eq_true',decide_eq_false_iff_not,decide_eq_true_eq] at hs
 obtain ⟨c1,c2,hk⟩:=hs
 have hg:=Kc s.rn r1 hk
 refine ⟨r1,kA r1 c2 (fun q=>xM s.rn (hg.trans q) pk),?_⟩
 have a:=qZ s.rn r1 (Int.le_of_eq hk)
 have b:=qZ r1 s.rn (Int.le_of_eq hk.symm)
 omega
theorem Fi {u1 v1 u2 v2 L R:Int} (E1 E2 E3 E4:Nat) (h1:Fx 872 1226 u1) (h2:Fx 872 1226 v1) (h3:Fx 872 1226 u2) (h4:Fx 872 1226 v2) (ho:FloatKind.f64.format.order (wd L) (wd R)=some .eq) (he:iV (aq u1 v2)=iV (aq v1 u2)) (w:World) (H:aD w) :
  Calls Tryz.prog 23 #[.agg #[.float .f64 (wd u1),.float .f64 E1,.float .f64 (wd v1),.float .f64 E2,.float .f64 (wd u2),.float .f64 E3,.float .f64 (wd v2),.float .f64 E4],.float .f64 (wd L),.float .f64 (wd R)] w fun r w'=>∃ h,r=.returned (.float .f64 (wd h))∧dG (hT u1 v1 u2 v2) h∧Below w.heap.size w w':=by
 have hv:=Ng h1 h2 h3 h4 he
 have C1:Hid (∀ W,aD W->Calls Tryz.prog 40 #[.float .f64 (wd u1),.float .f64 (wd v2)] W fun r w'=>r=.returned (.float .f64 (wd (bm u1 v2)))∧Below W.heap.size W w'):=fun W h=>IO h1.r h4.r h1.p h4.p W h
 have C2:Hid (∀ W,aD W->Calls Tryz.prog 40 #[.float .f64 (wd v1),.float .f64 (wd u2)] W fun r w'=>r=.returned (.float .f64 (wd (bm v1 u2)))∧Below W.heap.size W w'):=fun W h=>IO h2.r h3.r h2.p h3.p W h
 have hd:=fun W=>gB (P:=Tryz.prog) 47 (FW.pat (aS (q9 h1 h4).1) (dU h1.r h4.r)) (FW.pat (aS (q9 h2 h3).1) (dU h2.r h3.r)) (aS hv.p) W
 have HV:Hid (dG (hT u1 v1 u2 v2) (ap (bm u1 v2) (neg (bm v1 u2)))):=hv
 clear h1 h2 h3 h4 he hv
 generalize hT u1 v1 u2 v2=T at *
 generalize hx:ap (bm u1 v2) (neg (bm v1 u2))=X at *
 clear hx
 have HX:Hid (∃ h,wd X=wd h∧dG T h):=⟨X,rfl,HV.out⟩
 generalize wd X=XW at *
 generalize wd (bm u1 v2)=A1 at *
 generalize wd (bm v1 u2)=A2 at *
 generalize wd u1=U1 at *
 generalize wd v1=V1 at *
 generalize wd u2=U2 at *
 generalize wd v2=V2 at *
 generalize wd L=LW at *
 generalize wd R=RW at *
 have b_k:=aB w (.cells #[.float .f64 U1,.float .f64 E1,.float .f64 V1,.float .f64 E2,.float .f64 U2,.float .f64 E3,.float .f64 V2,.float .f64 E4] 51)
 have hb0:=ah w (.cells #[.float .f64 U1,.float .f64 E1,.float .f64 V1,.float .f64 E2,.float .f64 U2,.float .f64 E3,.float .f64 V2,.float .f64 E4] 51)
 go_enter Tryz.func23,Tryz.ntmps23
 go_wp2_with fail
 generalize w.alloc (.cells #[.float .f64 U1,.float .f64 E1,.float .f64 V1,.float .f64 E2,.float .f64 U2,.float .f64 E3,.float .f64 V2,.float .f64 E4] 51)=x0 at b_k hb0 ⊢
 have f0:=ac b_k 0 rfl
 have f2:=ac b_k 2 rfl
 have f4:=ac b_k 4 rfl
 have f6:=ac b_k 6 rfl
 go_quiet (fail)
 go_wp2_with fail
 clear f0 f2 f4 f6
 have hd:=iu (aA x0) nq
 replace hb0:=aa hb0 hd
 replace H:=H.keeps hb0
 generalize x0.drewN nq=x1 at hb0 H ⊢
 clear hd
 refine (C1.out _ H).mono ?_
 rintro _ y1 ⟨rfl,hw1⟩
 replace H:=H.keeps hw1
 go_wp2_with fail
 refine (C2.out _ H).mono ?_
 rintro _ y2 ⟨rfl,hw2⟩
 go_wp2
 go_ret
 obtain ⟨h,e,k⟩:=HX.out
 subst e
 exact ⟨h,rfl,k,aa hb0 (aa hw1 hw2)⟩
theorem IP (w:World) (x y:Int):aQ (w.alloc (.cells #[.int .i64 x,.int .i64 y] 3)) (some ⟨w.heap.size,0,none⟩) 2 2 (fun i=>if i=0 then x else y):=by
 have k:=aB w (.cells #[.int .i64 x,.int .i64 y] 3)
 refine ⟨Nat.le_refl _,by decide,(fun q=>by cases q),fun _=>⟨w.heap.size,0,rfl,(Array.getElem?_eq_some_iff.1 k).1,fun i hi=>?_⟩⟩
 rcases (show i=0∨i=1 by omega) with rfl | rfl
 ·exact ac k 0 rfl
 ·exact ac k 1 rfl
theorem Nh {u1 v1 u2 v2 V:Int} (h1:Fx 872 1226 u1) (h2:Fx 872 1226 v1) (h3:Fx 872 1226 u2) (h4:Fx 872 1226 v2) (hV:V*2^4194304=jJ (fun i=>ar (if i=0 then u1 else neg v1)*ar (if i=0 then v2 else u2)) 2):V=hT u1 v1 u2 v2*pw (-1074):=by
 obtain ⟨n1,n2,n3⟩:=bS h2.r h2.p
 have e0:jJ (fun i=>ar (if i=0 then u1 else neg v1)*ar (if i=0 then v2 else u2)) 2=0+ar u1*ar v2+ar (neg v1)*ar u2:=rfl
 rw [e0,bF h1.r h1.p,bF h4.r h4.p,bF n1 n2,bF h3.r h3.p,n3] at hV
 have e2:=j8 (a:=-1074) (b:=-1074) (by decide) (by decide)
 rw [show (-1074 + -1074:Int)=-2148 by decide] at e2
 have e3:=ff (e:=-2148) (by decide) 1074
 rw [show (-2148+((1074:Nat):Int))=-1074 by decide] at e3
 have hh:=uf h1 h2 h3 h4
 have hz:=aO 4194304
 generalize hT u1 v1 u2 v2=T at *
 generalize iV u1=a at *
 generalize iV v2=b at *
 generalize iV v1=c at *
 generalize iV u2=d at *
 generalize pw (-2148)=P at *
 generalize pw (-1074)=Q at *
 generalize (2:Int)^4194304=Z at *
 generalize (2:Int)^1074=K at *
 refine AZ (q:=Z) (by omega) ?_
 have e4:Z*V=(a*b-c*d)*(Q*Q):=by grind
 rw [e4,e2,<- hh,e3]
 grind
theorem wl {u1 v1 u2 v2 L R:Int} (E1 E2 E3 E4:Nat) (h1:Fx 872 1226 u1) (h2:Fx 872 1226 v1) (h3:Fx 872 1226 u2) (h4:Fx 872 1226 v2) (ho:FloatKind.f64.format.order (wd L) (wd R)=some .lt∨FloatKind.f64.format.order (wd L) (wd R)=some .gt) (w:World) (H:aD w) :
  Calls Tryz.prog 23 #[.agg #[.float .f64 (wd u1),.float .f64 E1,.float .f64 (wd v1),.float .f64 E2,.float .f64 (wd u2),.float .f64 E3,.float .f64 (wd v2),.float .f64 E4],.float .f64 (wd L),.float .f64 (wd R)] w fun r w'=>∃ h,r=.returned (.float .f64 (wd h))∧dG (hT u1 v1 u2 v2) h∧Below w.heap.size w w':=by
 obtain ⟨n1,n2,n3⟩:=bS h2.r h2.p
 have C1:Hid (∀ W,Calls Tryz.prog 42 #[.float .f64 (wd u1)] W fun e w'=>e=.returned (.int .i64 u1)∧w'=W):=fun W=>je (bU h1) W
 have C2:Hid (∀ W,Calls Tryz.prog 42 #[.float .f64 (wd (neg v1))] W fun e w'=>e=.returned (.int .i64 (neg v1))∧w'=W):=fun W=>je (FW.pat (aS n2) n1) W
 have C3:Hid (∀ W,Calls Tryz.prog 42 #[.float .f64 (wd v2)] W fun e w'=>e=.returned (.int .i64 v2)∧w'=W):=fun W=>je (bU h4) W
 have C4:Hid (∀ W,Calls Tryz.prog 42 #[.float .f64 (wd u2)] W fun e w'=>e=.returned (.int .i64 u2)∧w'=W):=fun W=>je (bU h3) W
 have hN:=fun W=>mx (P:=Tryz.prog) (p:=v1) ⟨h2.r,aS h2.p⟩ W
 have C5:Hid (∀ (o1 o2:Option Addr) W,aQ W o1 2 2 (fun i=>if i=0 then u1 else neg v1)->aQ W o2 2 2 (fun i=>if i=0 then v2 else u2)->aD W->Calls Tryz.prog 41 #[.slice o1 2 2,.slice o2 2 2,.int .i64 0] W fun r w'=>∃ h,r=.returned (.tuple #[.int .i64 h,.int .i64 0])∧dG (hT u1 v1 u2 v2) h∧Below W.heap.size W w'):=fun o1 o2 W r1 r2 hh=>by
  refine (Nf W r1 r2 (fun i hi=>?_) (fun i hi=>?_) (by omega) hh).mono ?_
  ·show aj (if i=0 then u1 else neg v1)∧ak (if i=0 then u1 else neg v1)=true
   split
   ·exact ⟨h1.r,h1.p⟩
   ·exact ⟨n1,n2⟩
  ·show aj (if i=0 then v2 else u2)∧ak (if i=0 then v2 else u2)=true
   split
   ·exact ⟨h4.r,h4.p⟩
   ·exact ⟨h3.r,h3.p⟩
  ·rintro _ w' ⟨x,rfl,ok,hV,hb⟩
   exact ⟨_,rfl,Kd ok (Nh h1 h2 h3 h4 hV) (Cc h1 h2 h3 h4),hb⟩
 have C6:Hid (∀ (h:Int) W,Calls Tryz.prog 20 #[.int .i64 h] W fun e w'=>e=.returned (.float .f64 (wd h))∧w'=W):=fun h W=>aW h W
 clear h1 h2 h3 h4 n1 n2 n3
 generalize hT u1 v1 u2 v2=T at *
 generalize wd u1=U1 at *
 generalize wd (neg v1)=NV at *
 generalize neg v1=nv at *
 generalize wd v1=V1 at *
 generalize wd u2=U2 at *
 generalize wd v2=V2 at *
 generalize wd L=LW at *
 generalize wd R=RW at *
 rcases ho with ho | ho
 all_goals
  have b_k:=aB w (.cells #[.float .f64 U1,.float .f64 E1,.float .f64 V1,.float .f64 E2,.float .f64 U2,.float .f64 E3,.float .f64 V2,.float .f64 E4] 51)
  have hb0:=ah w (.cells #[.float .f64 U1,.float .f64 E1,.float .f64 V1,.float .f64 E2,.float .f64 U2,.float .f64 E3,.float .f64 V2,.float .f64 E4] 51)
  go_enter Tryz.func23,Tryz.ntmps23
  go_wp2_with fail
  generalize w.alloc (.cells #[.float .f64 U1,.float .f64 E1,.float .f64 V1,.float .f64 E2,.float .f64 U2,.float .f64 E3,.float .f64 V2,.float .f64 E4] 51)=x0 at b_k hb0 ⊢
  have f0:=ac b_k 0 rfl
  have f2:=ac b_k 2 rfl
  have f4:=ac b_k 4 rfl
  have f6:=ac b_k 6 rfl
  go_quiet (fail)
  go_wp2_with fail
  clear f0 f2 f4 f6
  have hd:=iu (aA x0) nq
  replace hb0:=aa hb0 hd
  replace H:=H.keeps hb0
  generalize x0.drewN nq=x1 at hb0 H ⊢
  clear hd
  refine (C1.out _).mono ?_
  rintro _ wz ⟨rfl,hwz⟩
  replace hwz:=hwz.symm
  subst hwz
  go_wp2_with fail
  refine (C2.out _).mono ?_
  rintro _ wz ⟨rfl,hwz⟩
  replace hwz:=hwz.symm
  subst hwz
  go_wp2_with fail
  have r1:=IP x1 u1 nv
  have hb1:=ah x1 (.cells #[.int .i64 u1,.int .i64 nv] 3)
  generalize x1.alloc (.cells #[.int .i64 u1,.int .i64 nv] 3)=x2 at r1 hb1 ⊢
  replace H:=H.keeps hb1
  replace hb0:=aa hb0 hb1
  refine (C3.out _).mono ?_
  rintro _ wz ⟨rfl,hwz⟩
  replace hwz:=hwz.symm
  subst hwz
  go_wp2_with fail
  refine (C4.out _).mono ?_
  rintro _ wz ⟨rfl,hwz⟩
  replace hwz:=hwz.symm
  subst hwz
  go_wp2_with fail
  have r2:=IP x2 v2 u2
  have hb2:=ah x2 (.cells #[.int .i64 v2,.int .i64 u2] 3)
  generalize x2.alloc (.cells #[.int .i64 v2,.int .i64 u2] 3)=x3 at r2 hb2 ⊢
  replace H:=H.keeps hb2
  replace hb0:=aa hb0 hb2
  refine (C5.out _ _ _ (r1.keeps hb2) r2 H).mono ?_
  rintro _ y1 ⟨h,rfl,hv,hw1⟩
  go_wp2_with fail
  refine (C6.out _ _).mono ?_
  rintro _ wz ⟨rfl,hwz⟩
  replace hwz:=hwz.symm
  subst hwz
  go_wp2
  go_ret
  exact ⟨h,rfl,hv,aa hb0 hw1⟩
def jm (p q r s:Int):Ls:=gz (bK p q).d (bK p q).n (bK r s).d (bK r s).n
def pC (ax ay bx by' cx cy:Int):Ls:=bX ⟨(jm ax cx by' cy).n,(jm ax cx by' cy).d⟩ (fun i=>neg ((jm ay cy bx cx).d i)) (jm ay cy bx cx).n
theorem ve {p q r s:Int} (hp:Mz p) (hq:Mz q) (hr:Mz r) (hs:Mz s):jw (bK p q).d (bK p q).n (bK r s).d (bK r s).n=true∧XV (jm p q r s).d (jm p q r s).n∧(jm p q r s).n<=8:=by
 obtain ⟨u1,u2,u3,u4⟩:=jS hp hq
 obtain ⟨v1,v2,v3,v4⟩:=jS hr hs
 obtain ⟨l1,l2,l3,l4⟩:=tN u1 u2 (by omega) v2 (by omega) (bK r s).n (Nat.le_refl _)
 refine ⟨l1,l2,Nat.le_trans (tJ _ _ _ _) ?_⟩
 have:2*(bK p q).n*(bK r s).n<=2*2*2:=Nat.mul_le_mul (by omega) (by omega)
 omega
theorem Fj {p q r s:Int} (hp:Mz p) (hq:Mz q) (hr:Mz r) (hs:Mz s) {x y:Value} (w:World) (hx:iy w x (bK p q)) (hy:iy w y (bK r s)) (H:aD w) :
  Calls Tryz.prog 43 #[x,y] w fun r' w'=>∃ o c',r'=.returned (.tuple #[.slice o (jm p q r s).n c',.int .i64 0])∧iy w' (.slice o (jm p q r s).n c') (jm p q r s)∧Below w.heap.size w w':=by
 obtain ⟨xo,xc,rfl,hR⟩:=hx
 obtain ⟨yo,yc,rfl,hS⟩:=hy
 obtain ⟨u1,u2,u3,u4⟩:=jS hp hq
 obtain ⟨v1,v2,v3,v4⟩:=jS hr hs
 refine (Hb w hR hS (fun i hi=>(u1.fin i hi).1) (fun i hi=>(v1.fin i hi).1) (l5 u1) (l5 v1) (by omega) (by omega) H).mono ?_
 intro r w' h
 obtain ⟨ao,cap,e,hQ,hb'⟩:=h.yes (ve hp hq hr hs).1
 exact ⟨ao,cap,e,⟨ao,cap,rfl,hQ⟩,hb'⟩
theorem Ke {ax ay bx by' cx cy:Int} (hax:Mz ax) (hay:Mz ay) (hbx:Mz bx) (hby:Mz by') (hcx:Mz cx) (hcy:Mz cy):XV (pC ax ay bx by' cx cy).d (pC ax ay bx by' cx cy).n∧2^1074*cu (pC ax ay bx by' cx cy).d (pC ax ay bx by' cx cy).n=bV ax ay bx by' cx cy:=by
 obtain ⟨_,_,_,_,_,h6,h7⟩:=AF hax hay hbx hby hcx hcy
 exact ⟨h6,h7⟩
theorem LX {ax ay bx by' cx cy:Int} (hax:Mz ax) (hay:Mz ay) (hbx:Mz bx) (hby:Mz by') (hcx:Mz cx) (hcy:Mz cy) {x y:Value} (w:World) (hx:iy w x (jm ax cx by' cy)) (hy:iy w y (jm ay cy bx cx)) (H:aD w) :
  Calls Tryz.prog 45 #[x,y] w fun r' w'=>∃ o c',r'=.returned (.tuple #[.slice o (pC ax ay bx by' cx cy).n c',.int .i64 0])∧iy w' (.slice o (pC ax ay bx by' cx cy).n c') (pC ax ay bx by' cx cy)∧Below w.heap.size w w':=by
 obtain ⟨xo,xc,rfl,hR⟩:=hx
 obtain ⟨yo,yc,rfl,hS⟩:=hy
 obtain ⟨a1,a2,a3⟩:=ve hax hcx hby hcy
 obtain ⟨b1,b2,b3⟩:=ve hay hcy hbx hcx
 obtain ⟨_,_,_,_,h5,_,_⟩:=AF hax hay hbx hby hcx hcy
 refine (MR w hR hS (fun i hi=>(a2.fin i hi).1) (fun i hi=>(b2.fin i hi).1) (l5 a2) (l5 b2) (by omega) H).mono ?_
 intro r w' h
 obtain ⟨ao,cap,e,hQ,hb'⟩:=h.yes h5
 exact ⟨ao,cap,e,⟨ao,cap,rfl,hQ⟩,hb'⟩
def vf (s:Int):Int:=if s<0 then -4616189618054758400 else if 0<s then 4607182418800017408 else 0
theorem Cg {s:Int} (h:s=-1∨s=0∨s=1):aj (vf s)∧ak (vf s)=true∧qB (vf s)=s:=by
 rcases h with rfl | rfl | rfl
 ·exact ⟨by unfold aj; decide,by decide,by decide⟩
 ·exact ⟨by unfold aj; decide,by decide,by decide⟩
 ·exact ⟨by unfold aj; decide,by decide,by decide⟩
theorem rf (x:Int):bz x 0=-1∨bz x 0=0∨bz x 0=1:=by
 unfold bz
 split
 ·exact .inl rfl
 ·split
  ·exact .inr (.inr rfl)
  ·exact .inr (.inl rfl)
theorem Kf {s:Int} (h:s=-1∨s=0∨s=1) (w:World):(convert 3 47 (.int .i64 s)).run Tryz.prog w=.ok (.float .f64 (wd (vf s))) w:=by
 rcases h with rfl | rfl | rfl
 ·kernel_rfl
 ·kernel_rfl
 ·kernel_rfl
theorem Ni {ax ay bx by' cx cy:Int} (hax:Mz ax) (hay:Mz ay) (hbx:Mz bx) (hby:Mz by') (hcx:Mz cx) (hcy:Mz cy) (w:World) (H:aD w) :
  Calls Tryz.prog 26 #[.agg #[.float .f64 (wd (ap ax (neg cx))),.float .f64 (wd (sL ax (neg cx))),.float .f64 (wd (ap ay (neg cy))),.float .f64 (wd (sL ay (neg cy))),.float .f64 (wd (ap bx (neg cx))),.float .f64 (wd (sL bx (neg cx))),.float .f64 (wd (ap by' (neg cy))),.float .f64 (wd (sL by' (neg cy)))]] w fun r w'=>r=.returned (.float .f64 (wd (vf (bz (bV ax ay bx by' cx cy) 0))))∧Below w.heap.size w w':=by
 have C1:Hid (∀ W,Calls Tryz.prog 44 #[.agg #[.float .f64 (wd (ap ax (neg cx))),.float .f64 (wd (sL ax (neg cx)))]] W fun r w'=>∃ o c,r=.returned (.slice o (bK ax cx).n c)∧iy w' (.slice o (bK ax cx).n c) (bK ax cx)∧Below W.heap.size W w'):=fun W=>ui hax hcx W
 have C2:Hid (∀ W,Calls Tryz.prog 44 #[.agg #[.float .f64 (wd (ap ay (neg cy))),.float .f64 (wd (sL ay (neg cy)))]] W fun r w'=>∃ o c,r=.returned (.slice o (bK ay cy).n c)∧iy w' (.slice o (bK ay cy).n c) (bK ay cy)∧Below W.heap.size W w'):=fun W=>ui hay hcy W
 have C3:Hid (∀ W,Calls Tryz.prog 44 #[.agg #[.float .f64 (wd (ap bx (neg cx))),.float .f64 (wd (sL bx (neg cx)))]] W fun r w'=>∃ o c,r=.returned (.slice o (bK bx cx).n c)∧iy w' (.slice o (bK bx cx).n c) (bK bx cx)∧Below W.heap.size W w'):=fun W=>ui hbx hcx W
 have C4:Hid (∀ W,Calls Tryz.prog 44 #[.agg #[.float .f64 (wd (ap by' (neg cy))),.float .f64 (wd (sL by' (neg cy)))]] W fun r w'=>∃ o c,r=.returned (.slice o (bK by' cy).n c)∧iy w' (.slice o (bK by' cy).n c) (bK by' cy)∧Below W.heap.size W w'):=fun W=>ui hby hcy W
 have M1:Hid (∀ (x y:Value) W,iy W x (bK ax cx)->iy W y (bK by' cy)->aD W->Calls Tryz.prog 43 #[x,y] W fun r w'=>∃ o c',r=.returned (.tuple #[.slice o (jm ax cx by' cy).n c',.int .i64 0])∧iy w' (.slice o (jm ax cx by' cy).n c') (jm ax cx by' cy)∧Below W.heap.size W w'):=fun x y W hx hy h=>Fj hax hcx hby hcy W hx hy h
 have M2:Hid (∀ (x y:Value) W,iy W x (bK ay cy)->iy W y (bK bx cx)->aD W->Calls Tryz.prog 43 #[x,y] W fun r w'=>∃ o c',r=.returned (.tuple #[.slice o (jm ay cy bx cx).n c',.int .i64 0])∧iy w' (.slice o (jm ay cy bx cx).n c') (jm ay cy bx cx)∧Below W.heap.size W w'):=fun x y W hx hy h=>Fj hay hcy hbx hcx W hx hy h
 have D1:Hid (∀ (x y:Value) W,iy W x (jm ax cx by' cy)->iy W y (jm ay cy bx cx)->aD W->Calls Tryz.prog 45 #[x,y] W fun r w'=>∃ o c',r=.returned (.tuple #[.slice o (pC ax ay bx by' cx cy).n c',.int .i64 0])∧iy w' (.slice o (pC ax ay bx by' cx cy).n c') (pC ax ay bx by' cx cy)∧Below W.heap.size W w'):=fun x y W hx hy h=>LX hax hay hbx hby hcx hcy W hx hy h
 have S1:Hid (∀ (x:Value) W,iy W x (pC ax ay bx by' cx cy)->aD W->Calls Tryz.prog 46 #[x] W fun r w'=>r=.returned (.tuple #[.int .i64 (bz (bV ax ay bx by' cx cy) 0),.int .i64 0])∧Below W.heap.size W w'):=fun x W hx h=>by
  obtain ⟨xv,xs⟩:=Ke hax hay hbx hby hcx hcy
  have:=MT W hx xv h
  rw [<- xs,Int.mul_comm,sS (p2 1074)]
  exact this
 have hcv:=fun W=>Kf (rf (bV ax ay bx by' cx cy)) W
 clear hax hay hbx hby hcx hcy
 generalize bz (bV ax ay bx by' cx cy) 0=sgn at *
 generalize wd (vf sgn)=SF at *
 generalize wd (ap ax (neg cx))=P1 at *
 generalize wd (sL ax (neg cx))=E1 at *
 generalize wd (ap ay (neg cy))=P2 at *
 generalize wd (sL ay (neg cy))=E2 at *
 generalize wd (ap bx (neg cx))=P3 at *
 generalize wd (sL bx (neg cx))=E3 at *
 generalize wd (ap by' (neg cy))=P4 at *
 generalize wd (sL by' (neg cy))=E4 at *
 generalize bK ax cx=d1 at *
 generalize bK ay cy=d2 at *
 generalize bK bx cx=d3 at *
 generalize bK by' cy=d4 at *
 generalize jm ax cx by' cy=pl at *
 generalize jm ay cy bx cx=pr at *
 generalize pC ax ay bx by' cx cy=dd at *
 have b_k:=aB w (.cells #[.float .f64 P1,.float .f64 E1,.float .f64 P2,.float .f64 E2,.float .f64 P3,.float .f64 E3,.float .f64 P4,.float .f64 E4] 51)
 have hb0:=ah w (.cells #[.float .f64 P1,.float .f64 E1,.float .f64 P2,.float .f64 E2,.float .f64 P3,.float .f64 E3,.float .f64 P4,.float .f64 E4] 51)
 go_enter Tryz.func26,Tryz.ntmps26
 go_wp2_with fail
 generalize w.alloc (.cells #[.float .f64 P1,.float .f64 E1,.float .f64 P2,.float .f64 E2,.float .f64 P3,.float .f64 E3,.float .f64 P4,.float .f64 E4] 51)=x0 at b_k hb0 ⊢
 replace H:=H.keeps hb0
 have K1:∀ W,Below x0.heap.size x0 W->W.cell? ⟨w.heap.size,0,none⟩=some (.float .f64 P1)∧W.cell? ⟨w.heap.size,1,none⟩=some (.float .f64 E1)∧W.cell? ⟨w.heap.size,6,none⟩=some (.float .f64 P4)∧W.cell? ⟨w.heap.size,7,none⟩=some (.float .f64 E4):=fun W hb=>⟨aF (ac b_k 0 rfl) hb,aF (ac b_k 1 rfl) hb,aF (ac b_k 6 rfl) hb,aF (ac b_k 7 rfl) hb⟩
 have hC1_0:=(aA x0).drew
 go_region_held3 (fun W=>W.cell? ⟨w.heap.size,0,none⟩=some (.float .f64 P1)∧W.cell? ⟨w.heap.size,1,none⟩=some (.float .f64 E1)∧W.cell? ⟨w.heap.size,6,none⟩=some (.float .f64 P4)∧W.cell? ⟨w.heap.size,7,none⟩=some (.float .f64 E4))
  (with_reducible first | assumption | exact K1 _ hC1_0 | exact K1 _ hC1_1 | exact K1 _ hC1_2 | exact K1 _ hC1_3 | fail)
  (first | (go_at_call 43; refine (M1.out _ _ _ (x1_1.keeps hq1_2) x1_2 (H.keeps hC1_2)).mono ?_; rintro _ y1_3 ⟨o1_3,c1_3,rfl,x1_3,hq1_3⟩; have hC1_3:=aa hC1_2 hq1_3) | (go_at_call 44; have _t:=hq1_1; refine (C4.out _).mono ?_; rintro _ y1_2 ⟨o1_2,c1_2,rfl,x1_2,hq1_2⟩; have hC1_2:=aa hC1_1 hq1_2) | (go_at_call 44; refine (C1.out _).mono ?_; rintro _ y1_1 ⟨o1_1,c1_1,rfl,x1_1,hq1_1⟩; have hC1_1:=aa hC1_0 hq1_1))
 replace b_k:=am hC1_3 b_k
 replace hb0:=aa hb0 hC1_3
 replace H:=H.keeps hC1_3
 go_wp2_with fail
 have K2:∀ W,Below y1_3.heap.size y1_3 W->W.cell? ⟨w.heap.size,2,none⟩=some (.float .f64 P2)∧W.cell? ⟨w.heap.size,3,none⟩=some (.float .f64 E2)∧W.cell? ⟨w.heap.size,4,none⟩=some (.float .f64 P3)∧W.cell? ⟨w.heap.size,5,none⟩=some (.float .f64 E3):=fun W hb=>⟨aF (ac b_k 2 rfl) hb,aF (ac b_k 3 rfl) hb,aF (ac b_k 4 rfl) hb,aF (ac b_k 5 rfl) hb⟩
 have hC2_0:=(aA y1_3).drew
 go_region_held3 (fun W=>W.cell? ⟨w.heap.size,2,none⟩=some (.float .f64 P2)∧W.cell? ⟨w.heap.size,3,none⟩=some (.float .f64 E2)∧W.cell? ⟨w.heap.size,4,none⟩=some (.float .f64 P3)∧W.cell? ⟨w.heap.size,5,none⟩=some (.float .f64 E3))
  (with_reducible first | assumption | exact K2 _ hC2_0 | exact K2 _ hC2_1 | exact K2 _ hC2_2 | exact K2 _ hC2_3 | fail)
  (first | (go_at_call 43; refine (M2.out _ _ _ (x2_1.keeps hq2_2) x2_2 (H.keeps hC2_2)).mono ?_; rintro _ y2_3 ⟨o2_3,c2_3,rfl,x2_3,hq2_3⟩; have hC2_3:=aa hC2_2 hq2_3) | (go_at_call 44; have _t:=hq2_1; refine (C3.out _).mono ?_; rintro _ y2_2 ⟨o2_2,c2_2,rfl,x2_2,hq2_2⟩; have hC2_2:=aa hC2_1 hq2_2) | (go_at_call 44; refine (C2.out _).mono ?_; rintro _ y2_1 ⟨o2_1,c2_1,rfl,x2_1,hq2_1⟩; have hC2_1:=aa hC2_0 hq2_1))
 replace hb0:=aa hb0 hC2_3
 replace H:=H.keeps hC2_3
 have xa:=x1_3.keeps hC2_3
 go_wp2_with fail
 refine (D1.out _ _ _ xa x2_3 H).mono ?_
 rintro _ y3 ⟨o3,c3,rfl,x3,hq3⟩
 replace H:=H.keeps hq3
 go_wp2_with fail
 refine (S1.out _ _ x3 H).mono ?_
 rintro _ y4 ⟨rfl,hq4⟩
 go_wp2
 go_ret
 exact ⟨rfl,aa hb0 (aa hq3 hq4)⟩
theorem Nj (W:World):Calls Tryz.prog 20 #[.int .i64 0] W fun e w'=>e=.returned (.float .f64 0)∧w'=W:=by
 have:=aW 0 W
 rwa [show wd 0=0 by decide] at this
theorem Nk (W:World):Calls Tryz.prog 20 #[.int .i64 4607182418800017408] W fun e w'=>e=.returned (.float .f64 4607182418800017408)∧w'=W:=by
 have:=aW 4607182418800017408 W
 rwa [show wd 4607182418800017408=4607182418800017408 by decide] at this
theorem LY (W:World):Calls Tryz.prog 21 #[.float .f64 9223372036854775808] W fun e w'=>e=.returned (.float .f64 0)∧w'=W:=by
 have:=cr (b:=-9223372036854775808) (by unfold aj; omega) W
 rw [show wd (-9223372036854775808)=9223372036854775808 by decide,show rg (-9223372036854775808)=0 by decide,show wd 0=0 by decide] at this
 exact this
theorem LZ (W:World):Calls Tryz.prog 21 #[.float .f64 13830554455654793216] W fun e w'=>e=.returned (.float .f64 4607182418800017408)∧w'=W:=by
 have:=cr (b:=-4616189618054758400) (by unfold aj; omega) W
 rw [show wd (-4616189618054758400)=13830554455654793216 by decide,show rg (-4616189618054758400)=4607182418800017408 by decide,show wd 4607182418800017408=4607182418800017408 by decide] at this
 exact this
theorem L0 (W:World):Calls Tryz.prog 21 #[.float .f64 4607182418800017408] W fun e w'=>e=.returned (.float .f64 4607182418800017408)∧w'=W:=by
 have:=cr (b:=4607182418800017408) (by unfold aj; omega) W
 rw [show wd 4607182418800017408=4607182418800017408 by decide,show rg 4607182418800017408=4607182418800017408 by decide,show wd 4607182418800017408=4607182418800017408 by decide] at this
 exact this
theorem IQ (x:Nat) (o:FloatKind.f64.format.order x x=some .eq) (W:World):Calls Tryz.prog 47 #[.float .f64 x] W fun e w'=>e=.returned (.bool false)∧w'=W:=by
 go_enter Tryz.func47,Tryz.ntmps47
 go_wp2
 go_ret
 exact ⟨cd (by simp [o]),rfl⟩
theorem Kg (W:World):Calls Tryz.prog 27 #[.float .f64 4607182418800017408,.float .f64 0] W fun e w'=>e=.returned (.int .i64 1)∧w'=W:=by
 have o:FloatKind.f64.format.order 4607182418800017408 0=some .gt:=by decide +kernel
 have C1:=fun W=>IQ 4607182418800017408 (by decide +kernel) W
 have C0:=fun W=>IQ 0 (by decide +kernel) W
 go_enter Tryz.func27,Tryz.ntmps27
 go_wp2_with fail
 refine (C1 _).mono ?_
 rintro _ _ ⟨rfl,rfl⟩
 go_wp2_with fail
 refine (C0 _).mono ?_
 rintro _ _ ⟨rfl,rfl⟩
 go_wp2
 go_ret
 exact ⟨rfl,rfl⟩
def oJ (s:Nat) (V S:Value) (a':Act):Prop:=∃ u:Nat->Value,a'={ tmps:=#[u 0,u 1,u 2,u 3,u 4,u 5,.pointer (some ⟨s+1+1+1,0,none⟩),u 7,u 8,u 9,u 10,u 11,u 12,u 13,u 14,u 15,u 16,u 17,V,S,u 20,u 21,u 22,u 23,u 24,u 25,u 26,u 27,u 28,u 29,u 30,u 31,u 32,u 33,u 34,u 35,u 36,u 37,u 38,u 39,u 40,u 41,u 42,u 43,u 44,u 45,u 46,u 47,u 48,u 49,u 50,u 51,u 52,u 53,u 54,u 55,u 56,u 57,u 58,u 59,u 60,u 61,u 62,u 63,u 64,u 65,u 66,u 67,u 68,u 69,u 70,u 71,u 72,u 73,u 74,u 75,u 76,u 77,u 78,u 79,u 80,u 81,u 82,u 83,u 84,u 85,u 86,u 87,u 88,u 89,u 90,u 91,u 92,u 93,u 94,u 95,u 96,u 97,u 98,u 99,u 100,u 101],defers:=[] }
theorem mZ {s:Nat} {V S:Value} (t:Array Value) (h:#[t.getD 0 undef,t.getD 1 undef,t.getD 2 undef,t.getD 3 undef,t.getD 4 undef,t.getD 5 undef,.pointer (some ⟨s+1+1+1,0,none⟩),t.getD 7 undef,t.getD 8 undef,t.getD 9 undef,t.getD 10 undef,t.getD 11 undef,t.getD 12 undef,t.getD 13 undef,t.getD 14 undef,t.getD 15 undef,t.getD 16 undef,t.getD 17 undef,V,S,t.getD 20 undef,t.getD 21 undef,t.getD 22 undef,t.getD 23 undef,t.getD 24 undef,t.getD 25 undef,t.getD 26 undef,t.getD 27 undef,t.getD 28 undef,t.getD 29 undef,t.getD 30 undef,t.getD 31 undef,t.getD 32 undef,t.getD 33 undef,t.getD 34 undef,t.getD 35 undef,t.getD 36 undef,t.getD 37 undef,t.getD 38 undef,t.getD 39 undef,t.getD 40 undef,t.getD 41 undef,t.getD 42 undef,t.getD 43 undef,t.getD 44 undef,t.getD 45 undef,t.getD 46 undef,t.getD 47 undef,t.getD 48 undef,t.getD 49 undef,t.getD 50 undef,t.getD 51 undef,t.getD 52 undef,t.getD 53 undef,t.getD 54 undef,t.getD 55 undef,t.getD 56 undef,t.getD 57 undef,t.getD 58 undef,t.getD 59 undef,t.getD 60 undef,t.getD 61 undef,t.getD 62 undef,t.getD 63 undef,t.getD 64 undef,t.getD 65 undef,t.getD 66 undef,t.getD 67 undef,t.getD 68 undef,t.getD 69 undef,t.getD 70 undef,t.getD 71 undef,t.getD 72 undef,t.getD 73 undef,t.getD 74 undef,t.getD 75 undef,t.getD 76 undef,t.getD 77 undef,t.getD 78 undef,t.getD 79 undef,t.getD 80 undef,t.getD 81 undef,t.getD 82 undef,t.getD 83 undef,t.getD 84 undef,t.getD 85 undef,t.getD 86 undef,t.getD 87 undef,t.getD 88 undef,t.getD 89 undef,t.getD 90 undef,t.getD 91 undef,t.getD 92 undef,t.getD 93 undef,t.getD 94 undef,t.getD 95 undef,t.getD 96 undef,t.getD 97 undef,t.getD 98 undef,t.getD 99 undef,t.getD 100 undef,t.getD 101 undef]=t):oJ s V S { tmps:=t,defers:=[] }:=⟨fun k=>t.getD k undef,by rw [h]⟩
theorem Kh (w:World) :
    Calls Tryz.prog 13 #[.agg #[.int .i64 0,.int .i64 0],.agg #[.int .i64 4607182418800017408,.int .i64 0],.agg #[.int .i64 0,.int .i64 4607182418800017408]] w fun e w'=>e=.returned (.agg #[.int .i64 1,.int .i64 1])∧Below w.heap.size w w':=by
  have hcv:=sG
  have o:FloatKind.f64.format.order 4607182418800017408 4375247037990436868=some .gt:=by decide +kernel
  have h1:∀ w:World,(binOp .sub 47 (.float .f64 0) (.float .f64 0)).run Tryz.prog w=.ok (.float .f64 0) w:=fun w=>by kernel_rfl
  have h2:∀ w:World,(binOp .sub 47 (.float .f64 0) (.float .f64 4607182418800017408)).run Tryz.prog w=.ok (.float .f64 13830554455654793216) w:=fun w=>by kernel_rfl
  have h3:∀ w:World,(binOp .mul 47 (.float .f64 0) (.float .f64 13830554455654793216)).run Tryz.prog w=.ok (.float .f64 9223372036854775808) w:=fun w=>by kernel_rfl
  have h4:∀ w:World,(binOp .sub 47 (.float .f64 4607182418800017408) (.float .f64 0)).run Tryz.prog w=.ok (.float .f64 4607182418800017408) w:=fun w=>by kernel_rfl
  have h5:∀ w:World,(binOp .mul 47 (.float .f64 13830554455654793216) (.float .f64 4607182418800017408)).run Tryz.prog w=.ok (.float .f64 13830554455654793216) w:=fun w=>by kernel_rfl
  have h6:∀ w:World,(binOp .add 47 (.float .f64 0) (.float .f64 4607182418800017408)).run Tryz.prog w=.ok (.float .f64 4607182418800017408) w:=fun w=>by kernel_rfl
  have h7:∀ w:World,(binOp .sub 47 (.float .f64 9223372036854775808) (.float .f64 13830554455654793216)).run Tryz.prog w=.ok (.float .f64 4607182418800017408) w:=fun w=>by kernel_rfl
  have h8:∀ w:World,(binOp .mul 47 (.float .f64 4375247037990436868) (.float .f64 4607182418800017408)).run Tryz.prog w=.ok (.float .f64 4375247037990436868) w:=fun w=>by kernel_rfl
  go_enter Tryz.func13,Tryz.ntmps13
  have a_k:=az (.cells #[.float .f64 0,.float .f64 0,.float .f64 0,.float .f64 0,.float .f64 0,.float .f64 0,.float .f64 0,.float .f64 0] 51) (uw w (.cells #[.int .i64 0,.int .i64 0] 23) (.cells #[.int .i64 4607182418800017408,.int .i64 0] 23) (.cells #[.int .i64 0,.int .i64 4607182418800017408] 23) (.cells #[.int .i64 0,.int .i64 0] 28))
  have b_k:=az (.cells #[.float .f64 0,.float .f64 0,.float .f64 0,.float .f64 0,.float .f64 0,.float .f64 0,.float .f64 0,.float .f64 0] 51) (ux w (.cells #[.int .i64 0,.int .i64 0] 23) (.cells #[.int .i64 4607182418800017408,.int .i64 0] 23) (.cells #[.int .i64 0,.int .i64 4607182418800017408] 23) (.cells #[.int .i64 0,.int .i64 0] 28))
  have c_k:=az (.cells #[.float .f64 0,.float .f64 0,.float .f64 0,.float .f64 0,.float .f64 0,.float .f64 0,.float .f64 0,.float .f64 0] 51) (uy w (.cells #[.int .i64 0,.int .i64 0] 23) (.cells #[.int .i64 4607182418800017408,.int .i64 0] 23) (.cells #[.int .i64 0,.int .i64 4607182418800017408] 23) (.cells #[.int .i64 0,.int .i64 0] 28))
  have r_k:=az (.cells #[.float .f64 0,.float .f64 0,.float .f64 0,.float .f64 0,.float .f64 0,.float .f64 0,.float .f64 0,.float .f64 0] 51) (uz w (.cells #[.int .i64 0,.int .i64 0] 23) (.cells #[.int .i64 4607182418800017408,.int .i64 0] 23) (.cells #[.int .i64 0,.int .i64 4607182418800017408] 23) (.cells #[.int .i64 0,.int .i64 0] 28))
  have hb0:=aa (lm w (.cells #[.int .i64 0,.int .i64 0] 23) (.cells #[.int .i64 4607182418800017408,.int .i64 0] 23) (.cells #[.int .i64 0,.int .i64 4607182418800017408] 23) (.cells #[.int .i64 0,.int .i64 0] 28)) (ah _ (.cells #[.float .f64 0,.float .f64 0,.float .f64 0,.float .f64 0,.float .f64 0,.float .f64 0,.float .f64 0,.float .f64 0] 51))
  go_wp2
  refine wp_scope_jumps 0 (fun a' w'=>Below w.heap.size w w'∧w'.heap[w.heap.size+3]?=some (.cells #[.int .i64 0,.int .i64 0] 28 (0,0))∧oJ w.heap.size (.float .f64 4607182418800017408) (.int .i64 1) a') (fun _ _=>0) rfl ?_ ?_
  · go_wp2_with fail
    generalize ((((w.alloc (.cells #[.int .i64 0,.int .i64 0] 23)).alloc (.cells #[.int .i64 4607182418800017408,.int .i64 0] 23)).alloc (.cells #[.int .i64 0,.int .i64 4607182418800017408] 23)).alloc (.cells #[.int .i64 0,.int .i64 0] 28)).alloc (.cells #[.float .f64 0,.float .f64 0,.float .f64 0,.float .f64 0,.float .f64 0,.float .f64 0,.float .f64 0,.float .f64 0] 51)=x0 at a_k b_k c_k r_k hb0 ⊢
    have K0:x0.cell? ⟨w.heap.size,0,none⟩=some (.int .i64 0)∧x0.cell? ⟨w.heap.size,1,none⟩=some (.int .i64 0)∧x0.cell? ⟨w.heap.size+1,0,none⟩=some (.int .i64 4607182418800017408)∧x0.cell? ⟨w.heap.size+1,1,none⟩=some (.int .i64 0)∧x0.cell? ⟨w.heap.size+2,0,none⟩=some (.int .i64 0)∧x0.cell? ⟨w.heap.size+2,1,none⟩=some (.int .i64 4607182418800017408):=⟨ac a_k 0 rfl,ac a_k 1 rfl,ac b_k 0 rfl,ac b_k 1 rfl,ac c_k 0 rfl,ac c_k 1 rfl⟩
    clear a_k b_k c_k
    go_region_held3 (fun W=>W.cell? ⟨w.heap.size,0,none⟩=some (.int .i64 0)∧W.cell? ⟨w.heap.size,1,none⟩=some (.int .i64 0)∧W.cell? ⟨w.heap.size+1,0,none⟩=some (.int .i64 4607182418800017408)∧W.cell? ⟨w.heap.size+1,1,none⟩=some (.int .i64 0)∧W.cell? ⟨w.heap.size+2,0,none⟩=some (.int .i64 0)∧W.cell? ⟨w.heap.size+2,1,none⟩=some (.int .i64 4607182418800017408))
      (first | assumption | exact K0)
      (first
        | (go_at_call 20; first | (refine (Nj _).mono ?_; rintro _ _ ⟨rfl,rfl⟩) | (refine (Nk _).mono ?_; rintro _ _ ⟨rfl,rfl⟩)))
    clear K0
    go_wp2_with fail
    refine (LY _).mono ?_
    rintro _ _ ⟨rfl,rfl⟩
    go_wp2_with fail
    refine (LZ _).mono ?_
    rintro _ _ ⟨rfl,rfl⟩
    go_wp2_with fail
    refine (L0 _).mono ?_
    rintro _ _ ⟨rfl,rfl⟩
    go_wp2_with fail
    go_step3
    simp only [Exit.then,Exit.jump]
    exact ⟨rfl,hb0.drew,r_k,mZ _ (by kernel_rfl)⟩
  · rintro a' w' ⟨hb,hr,u,rfl⟩
    go_wp2_with fail
    refine (Kg _).mono ?_
    rintro _ _ ⟨rfl,rfl⟩
    have k0:=ac hr 0 rfl
    have k1:=ac hr 1 rfl
    have z0:=aw hr 0
    have z1:=aw hr 1
    have q:=aE (aE hr 0 (.int .i64 1)) 1 (.int .i64 1)
    have e0:=ac q 0 rfl
    have e1:=ac q 1 rfl
    go_wp2
    simp only [Exit.jump]
    refine bodyPost_ret (v:=.agg #[.int .i64 1,.int .i64 1]) (by simp [results,Tryz.results13,go_sem,e0,e1]) rfl ⟨rfl,(hb.setCell (p:=⟨w.heap.size+3,0,none⟩) (by show _<=_+3; omega) _).setCell (p:=⟨w.heap.size+3,1,none⟩) (by show _<=_+3; omega) _⟩
theorem kG {x y:Int} (hx:aj x) (hy:aj y) (w:World) :
  Calls Tryz.prog 12 #[.agg #[.int .i64 x,.int .i64 y]] w fun e w'=>e=.returned (.bool (cm x && cm y))∧Below w.heap.size w w':=by
 cases h1:cm x <;> cases h2:cm y
 all_goals
  go_enter Tryz.func12,Tryz.ntmps12
  go_wp2_with fail
  refine (vP hx _).mono ?_
  rintro _ _ ⟨rfl,rfl⟩
  go_wp2_with (go_at_call 19; refine (vP hy _).mono ?_; rintro _ _ ⟨rfl,rfl⟩)
  go_ret
  exact ⟨cd (by simp [h1,h2]),ah _ _⟩
theorem Ki (w:World) :
  Calls Tryz.prog 6 #[.agg #[.int .i64 0,.int .i64 0],.agg #[.int .i64 4607182418800017408,.int .i64 0],.agg #[.int .i64 0,.int .i64 4607182418800017408]] w fun e w'=>e=.returned (.tuple #[.agg #[.int .i64 1,.int .i64 1],.int .i64 0])∧Below w.heap.size w w':=by
 have r0:aj 0:=by unfold aj; omega
 have r1:aj 4607182418800017408:=by unfold aj; omega
 have C1:Hid (∀ W,Calls Tryz.prog 12 #[.agg #[.int .i64 0,.int .i64 0]] W fun e w'=>e=.returned (.bool true)∧Below W.heap.size W w'):=fun W=>kG r0 r0 W
 have C2:Hid (∀ W,Calls Tryz.prog 12 #[.agg #[.int .i64 4607182418800017408,.int .i64 0]] W fun e w'=>e=.returned (.bool true)∧Below W.heap.size W w'):=fun W=>kG r1 r0 W
 have C3:Hid (∀ W,Calls Tryz.prog 12 #[.agg #[.int .i64 0,.int .i64 4607182418800017408]] W fun e w'=>e=.returned (.bool true)∧Below W.heap.size W w'):=fun W=>kG r0 r1 W
 have CV:=fun W=>Kh W
 have a_k:=uw w (.cells #[.int .i64 0,.int .i64 0] 23) (.cells #[.int .i64 4607182418800017408,.int .i64 0] 23) (.cells #[.int .i64 0,.int .i64 4607182418800017408] 23) (.cells #[.int .i64 0,.int .i64 0] 28)
 have b_k:=ux w (.cells #[.int .i64 0,.int .i64 0] 23) (.cells #[.int .i64 4607182418800017408,.int .i64 0] 23) (.cells #[.int .i64 0,.int .i64 4607182418800017408] 23) (.cells #[.int .i64 0,.int .i64 0] 28)
 have c_k:=uy w (.cells #[.int .i64 0,.int .i64 0] 23) (.cells #[.int .i64 4607182418800017408,.int .i64 0] 23) (.cells #[.int .i64 0,.int .i64 4607182418800017408] 23) (.cells #[.int .i64 0,.int .i64 0] 28)
 have r_k:=uz w (.cells #[.int .i64 0,.int .i64 0] 23) (.cells #[.int .i64 4607182418800017408,.int .i64 0] 23) (.cells #[.int .i64 0,.int .i64 4607182418800017408] 23) (.cells #[.int .i64 0,.int .i64 0] 28)
 have hb0:=lm w (.cells #[.int .i64 0,.int .i64 0] 23) (.cells #[.int .i64 4607182418800017408,.int .i64 0] 23) (.cells #[.int .i64 0,.int .i64 4607182418800017408] 23) (.cells #[.int .i64 0,.int .i64 0] 28)
 go_enter Tryz.func6,Tryz.ntmps6
 go_wp2_with fail
 generalize (((w.alloc (.cells #[.int .i64 0,.int .i64 0] 23)).alloc (.cells #[.int .i64 4607182418800017408,.int .i64 0] 23)).alloc (.cells #[.int .i64 0,.int .i64 4607182418800017408] 23)).alloc (.cells #[.int .i64 0,.int .i64 0] 28)=x0 at a_k b_k c_k r_k hb0 ⊢
 refine (C1.out _).mono ?_
 rintro _ y1 ⟨rfl,hw1⟩
 have a_k:=(hw1.block _ (Array.getElem?_eq_some_iff.1 a_k).1).trans a_k
 have b_k:=(hw1.block _ (Array.getElem?_eq_some_iff.1 b_k).1).trans b_k
 have c_k:=(hw1.block _ (Array.getElem?_eq_some_iff.1 c_k).1).trans c_k
 have r_k:=(hw1.block _ (Array.getElem?_eq_some_iff.1 r_k).1).trans r_k
 have f0:=ac b_k 0 rfl
 have f1:=ac b_k 1 rfl
 go_wp2_with fail
 refine (C2.out _).mono ?_
 rintro _ y2 ⟨rfl,hw2⟩
 have a_k:=(hw2.block _ (Array.getElem?_eq_some_iff.1 a_k).1).trans a_k
 have b_k:=(hw2.block _ (Array.getElem?_eq_some_iff.1 b_k).1).trans b_k
 have c_k:=(hw2.block _ (Array.getElem?_eq_some_iff.1 c_k).1).trans c_k
 have r_k:=(hw2.block _ (Array.getElem?_eq_some_iff.1 r_k).1).trans r_k
 have f0:=ac c_k 0 rfl
 have f1:=ac c_k 1 rfl
 go_wp2_with fail
 refine (C3.out _).mono ?_
 rintro _ y3 ⟨rfl,hw3⟩
 have a_k:=(hw3.block _ (Array.getElem?_eq_some_iff.1 a_k).1).trans a_k
 have b_k:=(hw3.block _ (Array.getElem?_eq_some_iff.1 b_k).1).trans b_k
 have c_k:=(hw3.block _ (Array.getElem?_eq_some_iff.1 c_k).1).trans c_k
 have r_k:=(hw3.block _ (Array.getElem?_eq_some_iff.1 r_k).1).trans r_k
 have f0:=ac a_k 0 rfl
 have f1:=ac a_k 1 rfl
 have f2:=ac b_k 0 rfl
 have f3:=ac b_k 1 rfl
 have f4:=ac c_k 0 rfl
 have f5:=ac c_k 1 rfl
 go_wp2_with fail
 refine (CV _).mono ?_
 rintro _ y4 ⟨rfl,hw4⟩
 have r_k:=(hw4.block _ (Array.getElem?_eq_some_iff.1 r_k).1).trans r_k
 have k0:=ac r_k 0 rfl
 have k1:=ac r_k 1 rfl
 have z0:=aw r_k 0
 have z1:=aw r_k 1
 have q:=aE (aE r_k 0 (.int .i64 1)) 1 (.int .i64 1)
 have e0:=ac q 0 rfl
 have e1:=ac q 1 rfl
 have hb:=aa hb0 (aa hw1 (aa hw2 (aa hw3 hw4)))
 go_wp2
 refine bodyPost_ret (v:=.tuple #[.agg #[.int .i64 1,.int .i64 1],.int .i64 0]) (by simp [results,Tryz.results6,go_sem,e0,e1]) rfl ⟨rfl,(hb.setCell (p:=⟨w.heap.size+3,0,none⟩) (by show _<=_+3; omega) _).setCell (p:=⟨w.heap.size+3,1,none⟩) (by show _<=_+3; omega) _⟩
theorem Ch (x:Int) (w:World) :
  Calls Tryz.prog 8 #[.int .i64 x] w fun e w'=>e=.returned (.int .i64 x)∧w'=w:=by
 go_enter Tryz.func8,Tryz.ntmps8
 go_wp2
 go_ret
 exact ⟨b8 (by first | rfl | omega),rfl⟩
theorem A5 (w:World):Calls Tryz.prog 4 #[] w fun e w'=>e=.returned (.bool true)∧Below w.heap.size w w':=by
 have CV:=fun W=>Ki W
 go_enter Tryz.func4,Tryz.ntmps4
 go_wp2_with fail
 refine (CV _).mono ?_
 rintro _ w1 ⟨rfl,hb1⟩
 have hba:=ah w1 (.cells #[.int .i64 1,.int .i64 1] 28)
 have hg:=aB w1 (.cells #[.int .i64 1,.int .i64 1] 28)
 have c0:=ac hg 0 rfl
 have c1:=ac hg 1 rfl
 go_wp2_with (go_at_call 8; refine (Ch _ _).mono ?_; rintro _ _ ⟨rfl,rfl⟩)
 all_goals go_ret
 all_goals exact ⟨rfl,by first | exact aa hb1 hba | exact (aa hb1 hba).drew⟩
def OB (s:Nat) (sgn k:Int) (a':Act):Prop:=∃ X,(∀ W,Calls Tryz.prog 27 #[.float .f64 X,.float .f64 0] W fun r w'=>r=.returned (.int .i64 sgn)∧w'=W)∧oJ s (.float .f64 X) (.int .i64 k) a'
theorem zN {W:World} {g g':Nat} {o:Obj} (h:W.heap[g']?=some o) (hg:g'≠g) (x0 x1 x2 x3 x4 x5 x6 x7:Value):((((((((W.setCell ⟨g,0,none⟩ x0).setCell ⟨g,1,none⟩ x1).setCell ⟨g,2,none⟩ x2).setCell ⟨g,3,none⟩ x3).setCell ⟨g,4,none⟩ x4).setCell ⟨g,5,none⟩ x5).setCell ⟨g,6,none⟩ x6).setCell ⟨g,7,none⟩ x7).heap[g']?=some o :=
 ((((((((((Wr.refl g W).setCell 0 x0).setCell 1 x1).setCell 2 x2).setCell 3 x3).setCell 4 x4).setCell 5 x5).setCell 6 x6).setCell 7 x7).block _ (Array.getElem?_eq_some_iff.1 h).1 hg).trans h
def zf (c1:Ordering) (xb:Bool) (c2 c3:Ordering):Int :=
 match c1 with
 | .lt=>if xb then 2 else match c2 with
  | .lt=>match c3 with
   | .lt=>4
   | _=>3
  | _=>2
 | _=>1
theorem OC {ax ay bx by' cx cy T tl sgn:Int} {AX AY BX BY CX CY U1 V1 U2 V2 E1 E2 E3 E4 LW RW LA RA SW DW DA AS HG BS TW DB CS KH EW ZW:Nat} {c1 c2 c3:Ordering} {xb:Bool}
  (F1:(∀ W,Calls Tryz.prog 20 #[.int .i64 ax] W fun e w'=>e=.returned (.float .f64 AX)∧w'=W))
  (F2:(∀ W,Calls Tryz.prog 20 #[.int .i64 ay] W fun e w'=>e=.returned (.float .f64 AY)∧w'=W))
  (F3:(∀ W,Calls Tryz.prog 20 #[.int .i64 bx] W fun e w'=>e=.returned (.float .f64 BX)∧w'=W))
  (F4:(∀ W,Calls Tryz.prog 20 #[.int .i64 by'] W fun e w'=>e=.returned (.float .f64 BY)∧w'=W))
  (F5:(∀ W,Calls Tryz.prog 20 #[.int .i64 cx] W fun e w'=>e=.returned (.float .f64 CX)∧w'=W))
  (F6:(∀ W,Calls Tryz.prog 20 #[.int .i64 cy] W fun e w'=>e=.returned (.float .f64 CY)∧w'=W))
  (s1:(∀ W,(binOp .sub 47 (.float .f64 AX) (.float .f64 CX)).run Tryz.prog W=.ok (.float .f64 U1) W))
  (s2:(∀ W,(binOp .sub 47 (.float .f64 BY) (.float .f64 CY)).run Tryz.prog W=.ok (.float .f64 V2) W))
  (m1:(∀ W,(binOp .mul 47 (.float .f64 U1) (.float .f64 V2)).run Tryz.prog W=.ok (.float .f64 LW) W))
  (s3:(∀ W,(binOp .sub 47 (.float .f64 AY) (.float .f64 CY)).run Tryz.prog W=.ok (.float .f64 V1) W))
  (s4:(∀ W,(binOp .sub 47 (.float .f64 BX) (.float .f64 CX)).run Tryz.prog W=.ok (.float .f64 U2) W))
  (m2:(∀ W,(binOp .mul 47 (.float .f64 V1) (.float .f64 U2)).run Tryz.prog W=.ok (.float .f64 RW) W))
  (A1:(∀ W,Calls Tryz.prog 21 #[.float .f64 LW] W fun e w'=>e=.returned (.float .f64 LA)∧w'=W))
  (A2:(∀ W,Calls Tryz.prog 21 #[.float .f64 RW] W fun e w'=>e=.returned (.float .f64 RA)∧w'=W))
  (p1:(∀ W,(binOp .add 47 (.float .f64 LA) (.float .f64 RA)).run Tryz.prog W=.ok (.float .f64 SW) W))
  (s5:(∀ W,(binOp .sub 47 (.float .f64 LW) (.float .f64 RW)).run Tryz.prog W=.ok (.float .f64 DW) W))
  (A3:(∀ W,Calls Tryz.prog 21 #[.float .f64 DW] W fun e w'=>e=.returned (.float .f64 DA)∧w'=W))
  (m3:(∀ W,(binOp .mul 47 (.float .f64 4375247037990436868) (.float .f64 SW)).run Tryz.prog W=.ok (.float .f64 AS) W))
  (CFr:(∀ W,aD W->Calls Tryz.prog 22 #[.agg #[.int .i64 ax,.int .i64 ay],.agg #[.int .i64 bx,.int .i64 by'],.agg #[.int .i64 cx,.int .i64 cy]] W fun r w'=>r=.returned (.agg #[.float .f64 U1,.float .f64 E1,.float .f64 V1,.float .f64 E2,.float .f64 U2,.float .f64 E3,.float .f64 V2,.float .f64 E4])∧Below W.heap.size W w'))
  (CHd:(∀ W,aD W->Calls Tryz.prog 23 #[.agg #[.float .f64 U1,.float .f64 E1,.float .f64 V1,.float .f64 E2,.float .f64 U2,.float .f64 E3,.float .f64 V2,.float .f64 E4],.float .f64 LW,.float .f64 RW] W fun r w'=>∃ h,r=.returned (.float .f64 (wd h))∧dG T h∧Below W.heap.size W w'))
  (HA:(∀ h,dG T h->(∀ W,Calls Tryz.prog 21 #[.float .f64 (wd h)] W fun e w'=>e=.returned (.float .f64 HG)∧w'=W)))
  (m4:(∀ W,(binOp .mul 47 (.float .f64 4372995238176751619) (.float .f64 SW)).run Tryz.prog W=.ok (.float .f64 BS) W))
  (CT:(∀ W,Calls Tryz.prog 25 #[.agg #[.float .f64 U1,.float .f64 E1,.float .f64 V1,.float .f64 E2,.float .f64 U2,.float .f64 E3,.float .f64 V2,.float .f64 E4]] W fun r w'=>r=.returned (.float .f64 TW)∧Below W.heap.size W w'))
  (HS:(∀ h,dG T h->(∀ W,(binOp .add 47 (.float .f64 (wd h)) (.float .f64 TW)).run Tryz.prog W=.ok (.float .f64 (wd (ap h tl))) W)))
  (HB:(∀ h,dG T h->(∀ W,Calls Tryz.prog 21 #[.float .f64 (wd (ap h tl))] W fun e w'=>e=.returned (.float .f64 DB)∧w'=W)))
  (m5:(∀ W,(binOp .mul 47 (.float .f64 4143874607134277636) (.float .f64 SW)).run Tryz.prog W=.ok (.float .f64 CS) W))
  (m6:(∀ W,(binOp .mul 47 (.float .f64 4375247037990436866) (.float .f64 HG)).run Tryz.prog W=.ok (.float .f64 KH) W))
  (p2:(∀ W,(binOp .add 47 (.float .f64 CS) (.float .f64 KH)).run Tryz.prog W=.ok (.float .f64 EW) W))
  (CAl:(∀ W,aD W->Calls Tryz.prog 26 #[.agg #[.float .f64 U1,.float .f64 E1,.float .f64 V1,.float .f64 E2,.float .f64 U2,.float .f64 E3,.float .f64 V2,.float .f64 E4]] W fun r w'=>r=.returned (.float .f64 ZW)∧Below W.heap.size W w'))
  (o1:FloatKind.f64.format.order DA AS=some c1)
  (o2:FloatKind.f64.format.order HG BS=some c2)
  (o3:FloatKind.f64.format.order DB EW=some c3)
  (CEx:(∀ W,Calls Tryz.prog 24 #[.agg #[.float .f64 U1,.float .f64 E1,.float .f64 V1,.float .f64 E2,.float .f64 U2,.float .f64 E3,.float .f64 V2,.float .f64 E4]] W fun r w'=>r=.returned (.bool xb)∧Below W.heap.size W w'))
  (CC1:(c1 ≠ .lt->(∀ W,Calls Tryz.prog 27 #[.float .f64 DW,.float .f64 0] W fun r w'=>r=.returned (.int .i64 sgn)∧w'=W)))
  (CC2:(c1=.lt->(xb=true∨c2 ≠ .lt)->∀ h,dG T h->(∀ W,Calls Tryz.prog 27 #[.float .f64 (wd h),.float .f64 0] W fun r w'=>r=.returned (.int .i64 sgn)∧w'=W)))
  (CC3:(c1=.lt->c3 ≠ .lt->∀ h,dG T h->(∀ W,Calls Tryz.prog 27 #[.float .f64 (wd (ap h tl)),.float .f64 0] W fun r w'=>r=.returned (.int .i64 sgn)∧w'=W)))
  (CC4:(∀ W,Calls Tryz.prog 27 #[.float .f64 ZW,.float .f64 0] W fun r w'=>r=.returned (.int .i64 sgn)∧w'=W))
  (w:World) (H:aD w) :
  Calls Tryz.prog 13 #[.agg #[.int .i64 ax,.int .i64 ay],.agg #[.int .i64 bx,.int .i64 by'],.agg #[.int .i64 cx,.int .i64 cy]] w fun r w'=>r=.returned (.agg #[.int .i64 sgn,.int .i64 (zf c1 xb c2 c3)])∧Below w.heap.size w w':=by
 have hF1:Hid (∀ W,Calls Tryz.prog 20 #[.int .i64 ax] W fun e w'=>e=.returned (.float .f64 AX)∧w'=W):=F1
 clear F1
 have hF2:Hid (∀ W,Calls Tryz.prog 20 #[.int .i64 ay] W fun e w'=>e=.returned (.float .f64 AY)∧w'=W):=F2
 clear F2
 have hF3:Hid (∀ W,Calls Tryz.prog 20 #[.int .i64 bx] W fun e w'=>e=.returned (.float .f64 BX)∧w'=W):=F3
 clear F3
 have hF4:Hid (∀ W,Calls Tryz.prog 20 #[.int .i64 by'] W fun e w'=>e=.returned (.float .f64 BY)∧w'=W):=F4
 clear F4
 have hF5:Hid (∀ W,Calls Tryz.prog 20 #[.int .i64 cx] W fun e w'=>e=.returned (.float .f64 CX)∧w'=W):=F5
 clear F5
 have hF6:Hid (∀ W,Calls Tryz.prog 20 #[.int .i64 cy] W fun e w'=>e=.returned (.float .f64 CY)∧w'=W):=F6
 clear F6
 have hA1:Hid (∀ W,Calls Tryz.prog 21 #[.float .f64 LW] W fun e w'=>e=.returned (.float .f64 LA)∧w'=W):=A1
 clear A1
 have hA2:Hid (∀ W,Calls Tryz.prog 21 #[.float .f64 RW] W fun e w'=>e=.returned (.float .f64 RA)∧w'=W):=A2
 clear A2
 have hA3:Hid (∀ W,Calls Tryz.prog 21 #[.float .f64 DW] W fun e w'=>e=.returned (.float .f64 DA)∧w'=W):=A3
 clear A3
 have hCFr:Hid (∀ W,aD W->Calls Tryz.prog 22 #[.agg #[.int .i64 ax,.int .i64 ay],.agg #[.int .i64 bx,.int .i64 by'],.agg #[.int .i64 cx,.int .i64 cy]] W fun r w'=>r=.returned (.agg #[.float .f64 U1,.float .f64 E1,.float .f64 V1,.float .f64 E2,.float .f64 U2,.float .f64 E3,.float .f64 V2,.float .f64 E4])∧Below W.heap.size W w'):=CFr
 clear CFr
 have hCHd:Hid (∀ W,aD W->Calls Tryz.prog 23 #[.agg #[.float .f64 U1,.float .f64 E1,.float .f64 V1,.float .f64 E2,.float .f64 U2,.float .f64 E3,.float .f64 V2,.float .f64 E4],.float .f64 LW,.float .f64 RW] W fun r w'=>∃ h,r=.returned (.float .f64 (wd h))∧dG T h∧Below W.heap.size W w'):=CHd
 clear CHd
 have hHA:Hid (∀ h,dG T h->(∀ W,Calls Tryz.prog 21 #[.float .f64 (wd h)] W fun e w'=>e=.returned (.float .f64 HG)∧w'=W)):=HA
 clear HA
 have hCT:Hid (∀ W,Calls Tryz.prog 25 #[.agg #[.float .f64 U1,.float .f64 E1,.float .f64 V1,.float .f64 E2,.float .f64 U2,.float .f64 E3,.float .f64 V2,.float .f64 E4]] W fun r w'=>r=.returned (.float .f64 TW)∧Below W.heap.size W w'):=CT
 clear CT
 have hHS:Hid (∀ h,dG T h->(∀ W,(binOp .add 47 (.float .f64 (wd h)) (.float .f64 TW)).run Tryz.prog W=.ok (.float .f64 (wd (ap h tl))) W)):=HS
 clear HS
 have hHB:Hid (∀ h,dG T h->(∀ W,Calls Tryz.prog 21 #[.float .f64 (wd (ap h tl))] W fun e w'=>e=.returned (.float .f64 DB)∧w'=W)):=HB
 clear HB
 have hCAl:Hid (∀ W,aD W->Calls Tryz.prog 26 #[.agg #[.float .f64 U1,.float .f64 E1,.float .f64 V1,.float .f64 E2,.float .f64 U2,.float .f64 E3,.float .f64 V2,.float .f64 E4]] W fun r w'=>r=.returned (.float .f64 ZW)∧Below W.heap.size W w'):=CAl
 clear CAl
 have hCEx:Hid (∀ W,Calls Tryz.prog 24 #[.agg #[.float .f64 U1,.float .f64 E1,.float .f64 V1,.float .f64 E2,.float .f64 U2,.float .f64 E3,.float .f64 V2,.float .f64 E4]] W fun r w'=>r=.returned (.bool xb)∧Below W.heap.size W w'):=CEx
 clear CEx
 have hCC1:Hid (c1 ≠ .lt->(∀ W,Calls Tryz.prog 27 #[.float .f64 DW,.float .f64 0] W fun r w'=>r=.returned (.int .i64 sgn)∧w'=W)):=CC1
 clear CC1
 have hCC2:Hid (c1=.lt->(xb=true∨c2 ≠ .lt)->∀ h,dG T h->(∀ W,Calls Tryz.prog 27 #[.float .f64 (wd h),.float .f64 0] W fun r w'=>r=.returned (.int .i64 sgn)∧w'=W)):=CC2
 clear CC2
 have hCC3:Hid (c1=.lt->c3 ≠ .lt->∀ h,dG T h->(∀ W,Calls Tryz.prog 27 #[.float .f64 (wd (ap h tl)),.float .f64 0] W fun r w'=>r=.returned (.int .i64 sgn)∧w'=W)):=CC3
 clear CC3
 have hCC4:Hid (∀ W,Calls Tryz.prog 27 #[.float .f64 ZW,.float .f64 0] W fun r w'=>r=.returned (.int .i64 sgn)∧w'=W):=CC4
 clear CC4
 have hst:∀ p x m w,(store p (.float .f64 x) m).run Tryz.prog w=stored Tryz.prog w p (.float .f64 x) m:=fun p x m w=>run_store _ w p _ m rfl
 have HK0:=H
 obtain ⟨hb0,a_k,b_k,c_k,r_k,f_k,hsz0⟩:=MQ w (.cells #[.int .i64 ax,.int .i64 ay] 23) (.cells #[.int .i64 bx,.int .i64 by'] 23) (.cells #[.int .i64 cx,.int .i64 cy] 23) (.cells #[.int .i64 0,.int .i64 0] 28) (.cells #[.float .f64 0,.float .f64 0,.float .f64 0,.float .f64 0,.float .f64 0,.float .f64 0,.float .f64 0,.float .f64 0] 51)
 clear hsz0
 go_enter Tryz.func13,Tryz.ntmps13
 go_wp2
 refine wp_scope_jumps 0 (fun a' w'=>Below w.heap.size w w'∧w'.heap[w.heap.size+1+1+1]?=some (.cells #[.int .i64 0,.int .i64 0] 28 (0,0))∧OB w.heap.size sgn (zf c1 xb c2 c3) a') (fun _ _=>0) rfl ?_ ?_
 ·go_wp2_with fail
  generalize ((((w.alloc (.cells #[.int .i64 ax,.int .i64 ay] 23)).alloc (.cells #[.int .i64 bx,.int .i64 by'] 23)).alloc (.cells #[.int .i64 cx,.int .i64 cy] 23)).alloc (.cells #[.int .i64 0,.int .i64 0] 28)).alloc (.cells #[.float .f64 0,.float .f64 0,.float .f64 0,.float .f64 0,.float .f64 0,.float .f64 0,.float .f64 0,.float .f64 0] 51)=x0 at hb0 a_k b_k c_k r_k f_k ⊢
  have f_a0:=ac a_k 0 rfl
  have f_a1:=ac a_k 1 rfl
  have f_b0:=ac b_k 0 rfl
  have f_b1:=ac b_k 1 rfl
  have f_c0:=ac c_k 0 rfl
  have f_c1:=ac c_k 1 rfl
  go_quiet (first | (go_at_call 20; with_reducible exact Calls.quiet_of_same (hF1.out _)) | (go_at_call 20; with_reducible exact Calls.quiet_of_same (hF2.out _)) | (go_at_call 20; with_reducible exact Calls.quiet_of_same (hF3.out _)) | (go_at_call 20; with_reducible exact Calls.quiet_of_same (hF4.out _)) | (go_at_call 20; with_reducible exact Calls.quiet_of_same (hF5.out _)) | (go_at_call 20; with_reducible exact Calls.quiet_of_same (hF6.out _)))
  go_wp2_with fail
  clear f_a0 f_a1 f_b0 f_b1 f_c0 f_c1
  have hd:=iu (aA x0) nq
  replace a_k:=am hd a_k
  replace b_k:=am hd b_k
  replace c_k:=am hd c_k
  replace r_k:=am hd r_k
  replace f_k:=am hd f_k
  replace hb0:=aa hb0 hd
  replace H:=H.keeps hb0
  generalize x0.drewN nq=x1 at hb0 H a_k b_k c_k r_k f_k ⊢
  clear hd
  refine (hA1.out _).mono ?_
  rintro _ wz ⟨rfl,hwz⟩
  replace hwz:=hwz.symm
  subst hwz
  go_wp2_with fail
  refine (hA2.out _).mono ?_
  rintro _ wz ⟨rfl,hwz⟩
  replace hwz:=hwz.symm
  subst hwz
  go_wp2_with fail
  refine (hA3.out _).mono ?_
  rintro _ wz ⟨rfl,hwz⟩
  replace hwz:=hwz.symm
  subst hwz
  cases c1
  ·have f_a0:=ac a_k 0 rfl
   have f_a1:=ac a_k 1 rfl
   have f_b0:=ac b_k 0 rfl
   have f_b1:=ac b_k 1 rfl
   have f_c0:=ac c_k 0 rfl
   have f_c1:=ac c_k 1 rfl
   go_wp2_with fail
   clear f_a0 f_a1 f_b0 f_b1 f_c0 f_c1
   refine (hCFr.out _ H).mono ?_
   rintro _ y1 ⟨rfl,hw1⟩
   replace r_k:=am hw1 r_k
   replace f_k:=am hw1 f_k
   replace hb0:=aa hb0 hw1
   replace H:=H.keeps hw1
   have k0:=ac f_k 0 rfl
   have k1:=ac f_k 1 rfl
   have k2:=ac f_k 2 rfl
   have k3:=ac f_k 3 rfl
   have k4:=ac f_k 4 rfl
   have k5:=ac f_k 5 rfl
   have k6:=ac f_k 6 rfl
   have k7:=ac f_k 7 rfl
   have z0:=aw f_k 0
   have z1:=aw f_k 1
   have z2:=aw f_k 2
   have z3:=aw f_k 3
   have z4:=aw f_k 4
   have z5:=aw f_k 5
   have z6:=aw f_k 6
   have z7:=aw f_k 7
   have q8:=wj f_k (.float .f64 U1) (.float .f64 E1) (.float .f64 V1) (.float .f64 E2) (.float .f64 U2) (.float .f64 E3) (.float .f64 V2) (.float .f64 E4)
   have e0:=ac q8 0 rfl
   have e1:=ac q8 1 rfl
   have e2:=ac q8 2 rfl
   have e3:=ac q8 3 rfl
   have e4:=ac q8 4 rfl
   have e5:=ac q8 5 rfl
   have e6:=ac q8 6 rfl
   have e7:=ac q8 7 rfl
   have hb8:=((((((((hb0.setCell (p:=⟨w.heap.size+1+1+1+1,0,none⟩) (show w.heap.size<=w.heap.size+1+1+1+1 by omega) (.float .f64 U1)).setCell (p:=⟨w.heap.size+1+1+1+1,1,none⟩) (show w.heap.size<=w.heap.size+1+1+1+1 by omega) (.float .f64 E1)).setCell (p:=⟨w.heap.size+1+1+1+1,2,none⟩) (show w.heap.size<=w.heap.size+1+1+1+1 by omega) (.float .f64 V1)).setCell (p:=⟨w.heap.size+1+1+1+1,3,none⟩) (show w.heap.size<=w.heap.size+1+1+1+1 by omega) (.float .f64 E2)).setCell (p:=⟨w.heap.size+1+1+1+1,4,none⟩) (show w.heap.size<=w.heap.size+1+1+1+1 by omega) (.float .f64 U2)).setCell (p:=⟨w.heap.size+1+1+1+1,5,none⟩) (show w.heap.size<=w.heap.size+1+1+1+1 by omega) (.float .f64 E3)).setCell (p:=⟨w.heap.size+1+1+1+1,6,none⟩) (show w.heap.size<=w.heap.size+1+1+1+1 by omega) (.float .f64 V2)).setCell (p:=⟨w.heap.size+1+1+1+1,7,none⟩) (show w.heap.size<=w.heap.size+1+1+1+1 by omega) (.float .f64 E4))
   have H8:=HK0.keeps hb8
   have r8:=zN r_k (g:=w.heap.size+1+1+1+1) (by omega) (.float .f64 U1) (.float .f64 E1) (.float .f64 V1) (.float .f64 E2) (.float .f64 U2) (.float .f64 E3) (.float .f64 V2) (.float .f64 E4)
   go_wp2_with fail
   clear k0 z0 k1 z1 k2 z2 k3 z3 k4 z4 k5 z5 k6 z6 k7 z7
   clear f_k r_k hb0 H e0 e1 e2 e3 e4 e5 e6 e7
   generalize ((((((((y1.setCell ⟨w.heap.size+1+1+1+1,0,none⟩ (.float .f64 U1)).setCell ⟨w.heap.size+1+1+1+1,1,none⟩ (.float .f64 E1)).setCell ⟨w.heap.size+1+1+1+1,2,none⟩ (.float .f64 V1)).setCell ⟨w.heap.size+1+1+1+1,3,none⟩ (.float .f64 E2)).setCell ⟨w.heap.size+1+1+1+1,4,none⟩ (.float .f64 U2)).setCell ⟨w.heap.size+1+1+1+1,5,none⟩ (.float .f64 E3)).setCell ⟨w.heap.size+1+1+1+1,6,none⟩ (.float .f64 V2)).setCell ⟨w.heap.size+1+1+1+1,7,none⟩ (.float .f64 E4))=x2 at q8 hb8 H8 r8 ⊢
   refine (hCHd.out _ H8).mono ?_
   rintro _ y2 ⟨h,rfl,hv,hw2⟩
   replace q8:=am hw2 q8
   replace r8:=am hw2 r8
   replace hb8:=aa hb8 hw2
   replace H8:=H8.keeps hw2
   have HC2:Hid ((xb=true∨c2 ≠ .lt)->(∀ W,Calls Tryz.prog 27 #[.float .f64 (wd h),.float .f64 0] W fun r w'=>r=.returned (.int .i64 sgn)∧w'=W)):=fun b=>hCC2.out (by first | rfl | trivial) b h hv
   have HC3:Hid (c3 ≠ .lt->(∀ W,Calls Tryz.prog 27 #[.float .f64 (wd (ap h tl)),.float .f64 0] W fun r w'=>r=.returned (.int .i64 sgn)∧w'=W)):=fun b=>hCC3.out (by first | rfl | trivial) b h hv
   have HAh:Hid (∀ W,Calls Tryz.prog 21 #[.float .f64 (wd h)] W fun e w'=>e=.returned (.float .f64 HG)∧w'=W):=hHA.out h hv
   have HSh:=hHS.out h hv
   have HBh:Hid (∀ W,Calls Tryz.prog 21 #[.float .f64 (wd (ap h tl))] W fun e w'=>e=.returned (.float .f64 DB)∧w'=W):=hHB.out h hv
   generalize wd (ap h tl)=DH at *
   clear hv
   generalize wd h=HW at *
   have e0:=ac q8 0 rfl
   have e1:=ac q8 1 rfl
   have e2:=ac q8 2 rfl
   have e3:=ac q8 3 rfl
   have e4:=ac q8 4 rfl
   have e5:=ac q8 5 rfl
   have e6:=ac q8 6 rfl
   have e7:=ac q8 7 rfl
   go_wp2_with fail
   clear e0 e1 e2 e3 e4 e5 e6 e7
   refine (hCEx.out _).mono ?_
   rintro _ y3 ⟨rfl,hw3⟩
   replace q8:=am hw3 q8
   replace r8:=am hw3 r8
   replace hb8:=aa hb8 hw3
   replace H8:=H8.keeps hw3
   cases xb
   ·go_wp2_with fail
    refine (HAh.out _).mono ?_
    rintro _ wz ⟨rfl,hwz⟩
    replace hwz:=hwz.symm
    subst hwz
    cases c2
    ·have e0:=ac q8 0 rfl
     have e1:=ac q8 1 rfl
     have e2:=ac q8 2 rfl
     have e3:=ac q8 3 rfl
     have e4:=ac q8 4 rfl
     have e5:=ac q8 5 rfl
     have e6:=ac q8 6 rfl
     have e7:=ac q8 7 rfl
     go_wp2_with fail
     clear e0 e1 e2 e3 e4 e5 e6 e7
     refine (hCT.out _).mono ?_
     rintro _ y4 ⟨rfl,hw4⟩
     replace q8:=am hw4 q8
     replace r8:=am hw4 r8
     replace hb8:=aa hb8 hw4
     replace H8:=H8.keeps hw4
     go_wp2_with fail
     refine (HBh.out _).mono ?_
     rintro _ wz ⟨rfl,hwz⟩
     replace hwz:=hwz.symm
     subst hwz
     go_wp2_with fail
     refine (HAh.out _).mono ?_
     rintro _ wz ⟨rfl,hwz⟩
     replace hwz:=hwz.symm
     subst hwz
     cases c3
     ·have e0:=ac q8 0 rfl
      have e1:=ac q8 1 rfl
      have e2:=ac q8 2 rfl
      have e3:=ac q8 3 rfl
      have e4:=ac q8 4 rfl
      have e5:=ac q8 5 rfl
      have e6:=ac q8 6 rfl
      have e7:=ac q8 7 rfl
      go_wp2_with fail
      clear e0 e1 e2 e3 e4 e5 e6 e7
      refine (hCAl.out _ H8).mono ?_
      rintro _ y5 ⟨rfl,hw5⟩
      replace r8:=am hw5 r8
      replace hb8:=aa hb8 hw5
      go_wp2_with fail
      go_step3
      simp only [Exit.then,Exit.jump]
      rename_i K9 hK9
      refine hK9 _ _ ?_
      have hr:=r8
      have hb:=hb8
      go_wp2_with fail
      refine (hCC4.out _).mono ?_
      rintro _ wz ⟨rfl,hwz⟩
      replace hwz:=hwz.symm
      subst hwz
      have k0:=ac hr 0 rfl
      have k1:=ac hr 1 rfl
      have z0:=aw hr 0
      have z1:=aw hr 1
      have q:=aE (aE hr 0 (.int .i64 sgn)) 1 (.int .i64 4)
      have e0:=ac q 0 rfl
      have e1:=ac q 1 rfl
      go_wp2
      try simp only [Exit.jump]
      refine bodyPost_ret (v:=.agg #[.int .i64 sgn,.int .i64 4]) (by simp [results,Tryz.results13,go_sem,e0,e1]) rfl ⟨rfl,(hb.setCell (p:=⟨w.heap.size+1+1+1,0,none⟩) (by show _<=_+1+1+1; omega) _).setCell (p:=⟨w.heap.size+1+1+1,1,none⟩) (by show _<=_+1+1+1; omega) _⟩
     ·go_wp2_with fail
      go_step3
      simp only [Exit.then,Exit.jump]
      exact ⟨rfl,hb8,r8,DH,HC3.out (by first | decide | trivial | simp),mZ _ (by kernel_rfl)⟩
     ·go_wp2_with fail
      go_step3
      simp only [Exit.then,Exit.jump]
      exact ⟨rfl,hb8,r8,DH,HC3.out (by first | decide | trivial | simp),mZ _ (by kernel_rfl)⟩
    ·go_wp2_with fail
     go_step3
     simp only [Exit.then,Exit.jump]
     exact ⟨rfl,hb8,r8,HW,HC2.out (by first | exact .inr (by decide) | trivial | simp),mZ _ (by kernel_rfl)⟩
    ·go_wp2_with fail
     go_step3
     simp only [Exit.then,Exit.jump]
     exact ⟨rfl,hb8,r8,HW,HC2.out (by first | exact .inr (by decide) | trivial | simp),mZ _ (by kernel_rfl)⟩
   ·go_wp2_with fail
    go_step3
    simp only [Exit.then,Exit.jump]
    exact ⟨rfl,hb8,r8,HW,HC2.out (by first | exact .inl rfl | trivial | simp),mZ _ (by kernel_rfl)⟩
  ·go_wp2_with fail
   go_step3
   simp only [Exit.then,Exit.jump]
   exact ⟨rfl,hb0,r_k,DW,hCC1.out (by first | decide | trivial | simp),mZ _ (by kernel_rfl)⟩
  ·go_wp2_with fail
   go_step3
   simp only [Exit.then,Exit.jump]
   exact ⟨rfl,hb0,r_k,DW,hCC1.out (by first | decide | trivial | simp),mZ _ (by kernel_rfl)⟩
 ·rintro a' w' ⟨hb,hr,X,hX,u,rfl⟩
  have HX:Hid (∀ W,Calls Tryz.prog 27 #[.float .f64 X,.float .f64 0] W fun r w'=>r=.returned (.int .i64 sgn)∧w'=W):=hX
  clear hX
  generalize hkk:(zf c1 xb c2 c3)=kk at *
  have HKK:Hid ((zf c1 xb c2 c3)=kk):=hkk
  clear hkk
  go_wp2_with fail
  refine (HX.out _).mono ?_
  rintro _ wz ⟨rfl,hwz⟩
  replace hwz:=hwz.symm
  subst hwz
  have k0:=ac hr 0 rfl
  have k1:=ac hr 1 rfl
  have z0:=aw hr 0
  have z1:=aw hr 1
  have q:=aE (aE hr 0 (.int .i64 sgn)) 1 (.int .i64 kk)
  have e0:=ac q 0 rfl
  have e1:=ac q 1 rfl
  go_wp2
  try simp only [Exit.jump]
  refine bodyPost_ret (v:=.agg #[.int .i64 sgn,.int .i64 kk]) (by simp [results,Tryz.results13,go_sem,e0,e1]) rfl ⟨by rw [HKK.out],(hb.setCell (p:=⟨w.heap.size+1+1+1,0,none⟩) (by show _<=_+1+1+1; omega) _).setCell (p:=⟨w.heap.size+1+1+1,1,none⟩) (by show _<=_+1+1+1; omega) _⟩
theorem L5 {d m:Int} (hd:aj d) (pd:ak d=true) (hm:aj m) (pm:ak m=true):∃ c:Ordering,FloatKind.f64.format.order (wd (rg d)) (wd m)=some c∧(c=.lt ↔ ¬ au m<=rg d):=by
 obtain ⟨q1,q2⟩:=fQ hd
 have kR:au (rg d)=rg d:=lL q2
 have pR:ak (rg d)=true:=by
  have h1:=nM hd
  have h2:=nM q1
  rw [wD hd,<- h1] at h2
  rw [h2]; exact pd
 rcases Int.lt_trichotomy (au m) (rg d) with g | g | g
 ·exact ⟨.gt,fU q1 hm (aS pR) (aS pm) (by rw [kR]; exact g),(fun h=>by cases h),fun h=>absurd (Int.le_of_lt g) h⟩
 ·exact ⟨.eq,fJ q1 hm (aS pR) (aS pm) (by rw [kR]; exact g.symm),(fun h=>by cases h),fun h=>absurd (Int.le_of_eq g) h⟩
 ·exact ⟨.lt,fR q1 hm (aS pR) (aS pm) (by rw [kR]; exact g),(fun _=>by omega),fun _=>rfl⟩
theorem Nl:wd oA=4375247037990436868:=by decide
theorem Nm:wd oB=4372995238176751619:=by decide
theorem Nn:wd oC=4143874607134277636:=by decide
theorem Np:wd oK=4375247037990436866:=by decide
theorem L6 {c1 c2 c3:Ordering} {xb:Bool} {P1 P2 P3:Prop} [Decidable P1] [Decidable P2] [Decidable P3] (h1:c1=.lt ↔ ¬ P1) (h2:c2=.lt ↔ ¬ P2) (h3:c3=.lt ↔ ¬ P3):zf c1 xb c2 c3=if P1 then 1 else if xb=true∨P2 then 2 else if P3 then 3 else 4:=by
 by_cases p1:P1
 ·have:c1 ≠ .lt:=fun h=>h1.1 h p1
  rw [if_pos p1]
  cases c1 <;> first | rfl | exact absurd rfl this
 ·rw [if_neg p1,h1.2 p1]
  cases xb
  ·by_cases p2:P2
   ·have:c2 ≠ .lt:=fun h=>h2.1 h p2
    rw [if_pos (.inr p2)]
    cases c2 <;> first | rfl | exact absurd rfl this
   ·rw [if_neg (fun q=>q.elim (fun z=>by cases z) p2),h2.2 p2]
    by_cases p3:P3
    ·have:c3 ≠ .lt:=fun h=>h3.1 h p3
     rw [if_pos p3]
     cases c3 <;> first | rfl | exact absurd rfl this
    ·rw [if_neg p3,h3.2 p3]
     rfl
  ·rw [if_pos (.inl rfl)]
   rfl
theorem Hs {ax ay bx by' cx cy:Int} (hax:Mz ax) (hay:Mz ay) (hbx:Mz bx) (hby:Mz by') (hcx:Mz cx) (hcy:Mz cy) (w:World) (H:aD w) :
  Calls Tryz.prog 13 #[.agg #[.int .i64 ax,.int .i64 ay],.agg #[.int .i64 bx,.int .i64 by'],.agg #[.int .i64 cx,.int .i64 cy]] w fun r w'=>r=.returned (.agg #[.int .i64 (bz (bV ax ay bx by' cx cy) 0),.int .i64 (sT ax ay bx by' cx cy)])∧Below w.heap.size w w':=by
 have O:=mG hax hay hbx hby hcx hcy
 have fw:∀ {x:Int},Mz x->FW x (wd x):=fun h=>FW.pat (aS h.2.1) h.1
 have s1:=fun W=>gB (P:=Tryz.prog) 47 (fw hax) (fw hcx) (aS O.u1.p) W
 have s2:=fun W=>gB (P:=Tryz.prog) 47 (fw hby) (fw hcy) (aS O.v2.p) W
 have s3:=fun W=>gB (P:=Tryz.prog) 47 (fw hay) (fw hcy) (aS O.v1.p) W
 have s4:=fun W=>gB (P:=Tryz.prog) 47 (fw hbx) (fw hcx) (aS O.u2.p) W
 have m1:=fun W=>dD (P:=Tryz.prog) 47 (bU O.u1) (bU O.v2) (aS O.l.p) W
 have m2:=fun W=>dD (P:=Tryz.prog) 47 (bU O.v1) (bU O.u2) (aS O.r.p) W
 have p1:=fun W=>kO (P:=Tryz.prog) 47 (bU O.l.abs.1) (bU O.r.abs.1) (aS O.s.p) W
 have s5:=fun W=>gB (P:=Tryz.prog) 47 (bU O.l) (bU O.r) (aS O.d.p) W
 have m3:=fun W=>dD (P:=Tryz.prog) 47 (bU wF) (bU O.s) (aS (ug O.s).p) W
 have m4:=fun W=>dD (P:=Tryz.prog) 47 (bU BP) (bU O.s) (aS (wH O.s).p) W
 have m5:=fun W=>dD (P:=Tryz.prog) 47 (bU BQ) (bU O.s) (aS (Cd O.s).p) W
 have m6:=fun W=>dD (P:=Tryz.prog) 47 (bU BR) (bU O.h.abs.1) (aS (Ce O.h).p) W
 have p2:=fun W=>kO (P:=Tryz.prog) 47 (bU (Cd O.s)) (bU (Ce O.h)) (aS (Cf O.s O.h).p) W
 rw [Nl] at m3
 rw [Nm] at m4
 rw [Nn] at m5
 rw [Np] at m6
 have fS:∀ {h:Int},dG (jZ ax ay bx by' cx cy) h->Fx 670 1385 (ap h (mY ax ay bx by' cx cy)):=fun hv=>((hv.fx O.h).sum O.t (by decide)).1
 have fd:=fS (dG.self O.h)
 obtain ⟨c1,k1,i1⟩:=L5 O.d.r O.d.p (ug O.s).r (ug O.s).p
 obtain ⟨c2,k2,i2⟩:=L5 O.h.r O.h.p (wH O.s).r (wH O.s).p
 obtain ⟨c3,k3,i3⟩:=L5 fd.r fd.p (Cf O.s O.h).r (Cf O.s O.h).p
 have L1:=(hax.lost hcx).1
 have L2:=(hay.lost hcy).1
 have L3:=(hbx.lost hcx).1
 have L4:=(hby.lost hcy).1
 have CHd:∀ W,aD W->Calls Tryz.prog 23 #[.agg #[.float .f64 (wd (ap ax (neg cx))),.float .f64 (wd (sL ax (neg cx))),.float .f64 (wd (ap ay (neg cy))),.float .f64 (wd (sL ay (neg cy))),.float .f64 (wd (ap bx (neg cx))),.float .f64 (wd (sL bx (neg cx))),.float .f64 (wd (ap by' (neg cy))),.float .f64 (wd (sL by' (neg cy)))],.float .f64 (wd (oL ax ay bx by' cx cy)),.float .f64 (wd (oR ax ay bx by' cx cy))] W fun r w'=>∃ h,r=.returned (.float .f64 (wd h))∧dG (jZ ax ay bx by' cx cy) h∧Below W.heap.size W w':=fun W h=>by
  rcases Int.lt_trichotomy (au (oL ax ay bx by' cx cy)) (au (oR ax ay bx by' cx cy)) with g | g | g
  ·exact wl _ _ _ _ O.u1 O.v1 O.u2 O.v2 (.inl (fR O.l.r O.r.r (aS O.l.p) (aS O.r.p) g)) W h
  ·have i1:=qZ O.l.r O.r.r (Int.le_of_eq g)
   have i2:=qZ O.r.r O.l.r (Int.le_of_eq g.symm)
   exact Fi _ _ _ _ O.u1 O.v1 O.u2 O.v2 (fJ O.l.r O.r.r (aS O.l.p) (aS O.r.p) g) (Int.le_antisymm i1 i2) W h
  ·exact wl _ _ _ _ O.u1 O.v1 O.u2 O.v2 (.inr (fU O.l.r O.r.r (aS O.l.p) (aS O.r.p) g)) W h
 have CX:∀ W,Calls Tryz.prog 24 #[.agg #[.float .f64 (wd (ap ax (neg cx))),.float .f64 (wd (sL ax (neg cx))),.float .f64 (wd (ap ay (neg cy))),.float .f64 (wd (sL ay (neg cy))),.float .f64 (wd (ap bx (neg cx))),.float .f64 (wd (sL bx (neg cx))),.float .f64 (wd (ap by' (neg cy))),.float .f64 (wd (sL by' (neg cy)))]] W fun r w'=>r=.returned (.bool (oX ax ay bx by' cx cy))∧Below W.heap.size W w':=fun W=>J9 _ _ _ _ _ _ _ _ _ _ _ _ (uj L1.r L1.p) (uj L2.r L2.p) (uj L3.r L3.p) (uj L4.r L4.p) W
 have HA:∀ h,dG (jZ ax ay bx by' cx cy) h->∀ W,Calls Tryz.prog 21 #[.float .f64 (wd h)] W fun e w'=>e=.returned (.float .f64 (wd (rg (fN (jZ ax ay bx by' cx cy)))))∧w'=W:=fun h hv W=>by
  rw [<- hv.g O.h]
  exact cr hv.r W
 have HS:∀ h,dG (jZ ax ay bx by' cx cy) h->∀ W,(binOp .add 47 (.float .f64 (wd h)) (.float .f64 (wd (mY ax ay bx by' cx cy)))).run Tryz.prog W=.ok (.float .f64 (wd (ap h (mY ax ay bx by' cx cy)))) W:=fun h hv W=>kO 47 (FW.pat (aS hv.p) hv.r) (bU O.t) (aS (fS hv).p) W
 have HB:∀ h,dG (jZ ax ay bx by' cx cy) h->∀ W,Calls Tryz.prog 21 #[.float .f64 (wd (ap h (mY ax ay bx by' cx cy)))] W fun e w'=>e=.returned (.float .f64 (wd (rg (ap (fN (jZ ax ay bx by' cx cy)) (mY ax ay bx by' cx cy)))))∧w'=W:=fun h hv W=>by
  rw [<- hv.d O.h O.t]
  exact cr (fS hv).r W
 have z:=Cg (rf (bV ax ay bx by' cx cy))
 unfold sT
 rw [<- L6 (xb:=oX ax ay bx by' cx cy) i1 i2 i3]
 refine OC (T:=jZ ax ay bx by' cx cy) (tl:=mY ax ay bx by' cx cy) (fun W=>aW _ W) (fun W=>aW _ W) (fun W=>aW _ W) (fun W=>aW _ W) (fun W=>aW _ W) (fun W=>aW _ W) s1 s2 m1 s3 s4 m2 (fun W=>cr O.l.r W) (fun W=>cr O.r.r W) p1 s5 (fun W=>cr O.d.r W) m3 (fun W h=>LT hax hay hbx hby hcx hcy W h) CHd HA m4 (fun W=>LR O.u1 O.v1 O.u2 O.v2 L1 L2 L3 L4 W) HS HB m5 m6 p2 (fun W h=>Ni hax hay hbx hby hcx hcy W h) k1 k2 k3 CX (fun q W=>?_) (fun q1 q2 h hv W=>?_) (fun q1 q2 h hv W=>?_) (fun W=>?_) w H
 ·rw [Oe hax hay hbx hby hcx hcy (Decidable.not_not.1 (fun c=>q (i1.2 c)))]
  exact pe O.d.r O.d.p W
 ·rw [Og hax hay hbx hby hcx hcy hv (q2.imp id (fun q=>by rw [hv.g O.h]; exact Decidable.not_not.1 (fun c=>q (i2.2 c))))]
  exact pe hv.r hv.p W
 ·rw [Oh hax hay hbx hby hcx hcy hv (i1.1 q1) (by rw [hv.e _ O.h,hv.d O.h O.t]; exact Decidable.not_not.1 (fun c=>q2 (i3.2 c)))]
  exact pe (fS hv).r (fS hv).p W
 ·have:=pe z.1 z.2.1 W
  rw [z.2.2] at this
  exact this
def Ht (ax ay bx by' cx cy dx dy V:Int):Prop:=∃ V1 V2,y9 (ar ax-ar bx) (ar ay-ar by') (ar ax-ar bx) (ar ay-ar by') V1∧y9 (ar cx-ar dx) (ar cy-ar dy) (ar cx-ar dx) (ar cy-ar dy) V2∧V=V1-V2
theorem Ht.unique {ax ay bx by' cx cy dx dy V V':Int} (h:Ht ax ay bx by' cx cy dx dy V) (k:Ht ax ay bx by' cx cy dx dy V'):V=V':=by
 obtain ⟨a,b,h1,h2,rfl⟩:=h
 obtain ⟨c,d,k1,k2,rfl⟩:=k
 rw [h1.unique k1,h2.unique k2]
theorem L7 {a b c d x y:Int} (s:mE a b x) (t:mE c d y):Hid (∀ W,aD W->Calls Tryz.prog 31 #[.agg #[.int .i64 a,.int .i64 b],.agg #[.int .i64 c,.int .i64 d]] W fun e w'=>e=.returned (.tuple #[.agg #[.int .i64 (cD (bQ (aN a) (c6 (aN d)))),.int .i64 (cE (bQ (aN b) (c6 (aN c))))],.int .i64 0])∧Below W.heap.size W w')∧wg (cD (bQ (aN a) (c6 (aN d)))) (cE (bQ (aN b) (c6 (aN c)))) (x-y):=by
 refine ⟨fun W h=>?_,((show x + -y=x-y from rfl) ▸ s.h.plus t.h.neg).okk⟩
 have:=y8 s.lo.1 s.hi.1 t.lo.1 t.hi.1 W h
 rw [s.v,t.v] at this
 exact this
def zg (a b c d:Int):Int:=nW (bY a b) (bZ a b) (bY c d) (bZ c d)
def zh (a b c d:Int):Int:=nX (bY a b) (bZ a b) (bY c d) (bZ c d)
def lD (ax ay bx by' cx cy:Int):Int:=cD (bQ (aN (zg ax cx by' cy)) (c6 (aN (zh ay cy bx cx))))
def lE (ax ay bx by' cx cy:Int):Int:=cE (bQ (aN (zh ax cx by' cy)) (c6 (aN (zg ay cy bx cx))))
theorem um {a b c d:Int} (ra:aj a) (rb:aj b) (rc:aj c) (rd:aj d) (pa:ak a=true) (pb:ak b=true) (pc:ak c=true) (pd:ak d=true):wg (zg a b c d) (zh a b c d) (ej (ar a-ar b) (ar c-ar d)) :=
 (Hl (iB (l9 ra rb pa pb)) (iB (l9 rc rd pc pd))).2
theorem L8 {ax ay bx by' cx cy:Int} (rax:aj ax) (ray:aj ay) (rbx:aj bx) (rby:aj by') (rcx:aj cx) (rcy:aj cy) (pax:ak ax=true) (pay:ak ay=true) (pbx:ak bx=true) (pby:ak by'=true) (pcx:ak cx=true) (pcy:ak cy=true):wg (lD ax ay bx by' cx cy) (lE ax ay bx by' cx cy) (ej (ar ax-ar cx) (ar by'-ar cy)-ej (ar ay-ar cy) (ar bx-ar cx)) :=
 (L7 (iB (um rax rcx rby rcy pax pcx pby pcy)) (iB (um ray rcy rbx rcx pay pcy pbx pcx))).2
theorem Ci {ax ay bx by' cx cy:Int} (rax:aj ax) (ray:aj ay) (rbx:aj bx) (rby:aj by') (rcx:aj cx) (rcy:aj cy) (pax:ak ax=true) (pay:ak ay=true) (pbx:ak bx=true) (pby:ak by'=true) (pcx:ak cx=true) (pcy:ak cy=true) :
  yG (ar ax-ar cx) (ar ay-ar cy) (ar bx-ar cx) (ar by'-ar cy) (bV ax ay bx by' cx cy*pw (-2148)):=by
 rw [q7 rax rcx pax pcx,q7 ray rcy pay pcy,q7 rbx rcx pbx pcx,q7 rby rcy pby pcy]
 exact ⟨_,_,ub _ _,ub _ _,by unfold bV; rw [Int.sub_mul]⟩
theorem Hu {ax ay bx by' cx cy:Int} (rax:aj ax) (ray:aj ay) (rbx:aj bx) (rby:aj by') (rcx:aj cx) (rcy:aj cy) (pax:ak ax=true) (pay:ak ay=true) (pbx:ak bx=true) (pby:ak by'=true) (pcx:ak cx=true) (pcy:ak cy=true) (w:World) (H:aD w) :
    Calls Tryz.prog 15 #[.agg #[.int .i64 ax,.int .i64 ay],.agg #[.int .i64 bx,.int .i64 by'],.agg #[.int .i64 cx,.int .i64 cy]] w fun r w'=>r=.returned (.agg #[.int .i64 (bz (bV ax ay bx by' cx cy) 0),.int .i64 (if pB (lD ax ay bx by' cx cy) (lE ax ay bx by' cx cy) then 5 else 6)])∧Below w.heap.size w w':=by
  have A1:Hid (∀ W,aD W->Calls Tryz.prog 30 #[.int .i64 ax,.int .i64 cx] W fun r w'=>r=.returned (.agg #[.int .i64 (bY ax cx),.int .i64 (bZ ax cx)])∧Below W.heap.size W w'):=fun W h=>mX rax rcx pax pcx W h
  have A2:Hid (∀ W,aD W->Calls Tryz.prog 30 #[.int .i64 by',.int .i64 cy] W fun r w'=>r=.returned (.agg #[.int .i64 (bY by' cy),.int .i64 (bZ by' cy)])∧Below W.heap.size W w'):=fun W h=>mX rby rcy pby pcy W h
  have A3:Hid (∀ W,aD W->Calls Tryz.prog 30 #[.int .i64 ay,.int .i64 cy] W fun r w'=>r=.returned (.agg #[.int .i64 (bY ay cy),.int .i64 (bZ ay cy)])∧Below W.heap.size W w'):=fun W h=>mX ray rcy pay pcy W h
  have A4:Hid (∀ W,aD W->Calls Tryz.prog 30 #[.int .i64 bx,.int .i64 cx] W fun r w'=>r=.returned (.agg #[.int .i64 (bY bx cx),.int .i64 (bZ bx cx)])∧Below W.heap.size W w'):=fun W h=>mX rbx rcx pbx pcx W h
  have M1:=(Hl (iB (l9 rax rcx pax pcx)) (iB (l9 rby rcy pby pcy))).1
  have M2:=(Hl (iB (l9 ray rcy pay pcy)) (iB (l9 rbx rcx pbx pcx))).1
  have S1:=(L7 (iB (um rax rcx rby rcy pax pcx pby pcy)) (iB (um ray rcy rbx rcx pay pcy pbx pcx))).1
  have ok:=L8 rax ray rbx rby rcx rcy pax pay pbx pby pcx pcy
  have hD:=Ci rax ray rbx rby rcx rcy pax pay pbx pby pcx pcy
  have eV:ej (ar ax-ar cx) (ar by'-ar cy)-ej (ar ay-ar cy) (ar bx-ar cx)=bV ax ay bx by' cx cy*pw (-2148):=by
    obtain ⟨C,D,h1,h2,h3⟩:=hD
    rw [h3,AU h1,AU h2]
  rw [eV] at ok
  have hso:=J8 ok
  rw [sS (bD _)] at hso
  have CS:Hid (∀ W,Calls Tryz.prog 32 #[.agg #[.int .i64 (lD ax ay bx by' cx cy),.int .i64 (lE ax ay bx by' cx cy)]] W fun e w'=>e=.returned (.tuple #[.int .i64 (ua (lD ax ay bx by' cx cy) (lE ax ay bx by' cx cy)),.bool (pB (lD ax ay bx by' cx cy) (lE ax ay bx by' cx cy)),.int .i64 (kQ (bT (lD ax ay bx by' cx cy) (lE ax ay bx by' cx cy)))])∧Below W.heap.size W w'):=fun W=>Fb ok.lo.1 ok.hi.1 W
  have HSO:Hid (pB (lD ax ay bx by' cx cy) (lE ax ay bx by' cx cy)=true->ua (lD ax ay bx by' cx cy) (lE ax ay bx by' cx cy)=bz (bV ax ay bx by' cx cy) 0):=hso
  have CX:Hid (∀ W,aD W->Calls Tryz.prog 16 #[.agg #[.int .i64 ax,.int .i64 ay],.agg #[.int .i64 bx,.int .i64 by'],.agg #[.int .i64 cx,.int .i64 cy]] W fun r w'=>∃ n_g n_o n_n n_c n_e,r=.returned (.agg #[.bool n_g,.slice n_o n_n n_c,.int .i64 n_e])∧(∀ W2,Below w'.heap.size w' W2->Calls Tryz.prog 33 #[.agg #[.bool n_g,.slice n_o n_n n_c,.int .i64 n_e]] W2 fun r2 w2=>r2=.returned (.tuple #[.int .i64 (bz (bV ax ay bx by' cx cy) 0),.int .i64 0])∧Below W2.heap.size W2 w2)∧Below W.heap.size W w'):=fun W h=>by
    refine (tU pax pay pbx pby pcx pcy W h).mono ?_
    rintro _ w3 ⟨v,V,rfl,hA,hV,hB⟩
    obtain ⟨n_g,n_o,n_n,n_c,n_e,rfl⟩:=bW hA
    refine ⟨n_g,n_o,n_n,n_c,n_e,rfl,fun W4 h4=>?_,hA.below⟩
    have:=KD (hA.num.keeps h4) (hB.ok (by omega))
    rw [hV.unique hD,sS (bD _)] at this
    exact this
  clear eV hso ok hD
  clear rax ray rbx rby rcx rcy pax pay pbx pby pcx pcy
  unfold lD lE at CS HSO ⊢
  unfold zg zh at *
  generalize bz (bV ax ay bx by' cx cy) 0=sgn at *
  generalize ua (cD (bQ (aN (nW (bY ax cx) (bZ ax cx) (bY by' cy) (bZ by' cy))) (c6 (aN (nX (bY ay cy) (bZ ay cy) (bY bx cx) (bZ bx cx)))))) (cE (bQ (aN (nX (bY ax cx) (bZ ax cx) (bY by' cy) (bZ by' cy))) (c6 (aN (nW (bY ay cy) (bZ ay cy) (bY bx cx) (bZ bx cx))))))=sgo at *
  generalize pB (cD (bQ (aN (nW (bY ax cx) (bZ ax cx) (bY by' cy) (bZ by' cy))) (c6 (aN (nX (bY ay cy) (bZ ay cy) (bY bx cx) (bZ bx cx)))))) (cE (bQ (aN (nX (bY ax cx) (bZ ax cx) (bY by' cy) (bZ by' cy))) (c6 (aN (nW (bY ay cy) (bZ ay cy) (bY bx cx) (bZ bx cx))))))=kb at *
  generalize kQ (bT (cD (bQ (aN (nW (bY ax cx) (bZ ax cx) (bY by' cy) (bZ by' cy))) (c6 (aN (nX (bY ay cy) (bZ ay cy) (bY bx cx) (bZ bx cx)))))) (cE (bQ (aN (nX (bY ax cx) (bZ ax cx) (bY by' cy) (bZ by' cy))) (c6 (aN (nW (bY ay cy) (bZ ay cy) (bY bx cx) (bZ bx cx)))))))=er0 at *
  generalize cD (bQ (aN (nW (bY ax cx) (bZ ax cx) (bY by' cy) (bZ by' cy))) (c6 (aN (nX (bY ay cy) (bZ ay cy) (bY bx cx) (bZ bx cx)))))=lo at *
  generalize cE (bQ (aN (nX (bY ax cx) (bZ ax cx) (bY by' cy) (bZ by' cy))) (c6 (aN (nW (bY ay cy) (bZ ay cy) (bY bx cx) (bZ bx cx)))))=hi at *
  generalize nW (bY ax cx) (bZ ax cx) (bY by' cy) (bZ by' cy)=l0 at *
  generalize nX (bY ax cx) (bZ ax cx) (bY by' cy) (bZ by' cy)=l1 at *
  generalize nW (bY ay cy) (bZ ay cy) (bY bx cx) (bZ bx cx)=s0 at *
  generalize nX (bY ay cy) (bZ ay cy) (bY bx cx) (bZ bx cx)=s1 at *
  generalize bY ax cx=a1 at *
  generalize bZ ax cx=b1 at *
  generalize bY by' cy=a2 at *
  generalize bZ by' cy=b2 at *
  generalize bY ay cy=a3 at *
  generalize bZ ay cy=b3 at *
  generalize bY bx cx=a4 at *
  generalize bZ bx cx=b4 at *
  have a_k:(w.alloc (.cells #[.int .i64 ax,.int .i64 ay] 23)).heap[w.heap.size]?=some (.cells #[.int .i64 ax,.int .i64 ay] 23):=bJ (.cells #[.int .i64 ax,.int .i64 ay] 23) (by rfl)
  have hb0:=ah w (.cells #[.int .i64 ax,.int .i64 ay] 23)
  replace a_k:=az (.cells #[.int .i64 bx,.int .i64 by'] 23) a_k
  have b_k:((w.alloc (.cells #[.int .i64 ax,.int .i64 ay] 23)).alloc (.cells #[.int .i64 bx,.int .i64 by'] 23)).heap[w.heap.size+1]?=some (.cells #[.int .i64 bx,.int .i64 by'] 23):=bJ (.cells #[.int .i64 bx,.int .i64 by'] 23) (by simp only [a8])
  replace hb0:=aa hb0 (ah (w.alloc (.cells #[.int .i64 ax,.int .i64 ay] 23)) (.cells #[.int .i64 bx,.int .i64 by'] 23))
  replace a_k:=az (.cells #[.int .i64 cx,.int .i64 cy] 23) a_k
  replace b_k:=az (.cells #[.int .i64 cx,.int .i64 cy] 23) b_k
  have c_k:(((w.alloc (.cells #[.int .i64 ax,.int .i64 ay] 23)).alloc (.cells #[.int .i64 bx,.int .i64 by'] 23)).alloc (.cells #[.int .i64 cx,.int .i64 cy] 23)).heap[w.heap.size+1+1]?=some (.cells #[.int .i64 cx,.int .i64 cy] 23):=bJ (.cells #[.int .i64 cx,.int .i64 cy] 23) (by simp only [a8])
  replace hb0:=aa hb0 (ah ((w.alloc (.cells #[.int .i64 ax,.int .i64 ay] 23)).alloc (.cells #[.int .i64 bx,.int .i64 by'] 23)) (.cells #[.int .i64 cx,.int .i64 cy] 23))
  replace a_k:=az (.cells #[.int .i64 0,.int .i64 0] 28) a_k
  replace b_k:=az (.cells #[.int .i64 0,.int .i64 0] 28) b_k
  replace c_k:=az (.cells #[.int .i64 0,.int .i64 0] 28) c_k
  have r_k:((((w.alloc (.cells #[.int .i64 ax,.int .i64 ay] 23)).alloc (.cells #[.int .i64 bx,.int .i64 by'] 23)).alloc (.cells #[.int .i64 cx,.int .i64 cy] 23)).alloc (.cells #[.int .i64 0,.int .i64 0] 28)).heap[w.heap.size+1+1+1]?=some (.cells #[.int .i64 0,.int .i64 0] 28):=bJ (.cells #[.int .i64 0,.int .i64 0] 28) (by simp only [a8])
  replace hb0:=aa hb0 (ah (((w.alloc (.cells #[.int .i64 ax,.int .i64 ay] 23)).alloc (.cells #[.int .i64 bx,.int .i64 by'] 23)).alloc (.cells #[.int .i64 cx,.int .i64 cy] 23)) (.cells #[.int .i64 0,.int .i64 0] 28))
  go_enter Tryz.func15,Tryz.ntmps15
  go_wp2_with fail
  rename_i Q0 K00 hK00
  generalize ((((w.alloc (.cells #[.int .i64 ax,.int .i64 ay] 23)).alloc (.cells #[.int .i64 bx,.int .i64 by'] 23)).alloc (.cells #[.int .i64 cx,.int .i64 cy] 23)).alloc (.cells #[.int .i64 0,.int .i64 0] 28))=x0 at hb0 a_k b_k c_k r_k ⊢
  have H:=H.keeps hb0
  have hK1:=hK00
  have HN1:∀ (g:Nat) (x1:World) (t:Array Value),#[t.getD 0 undef,t.getD 1 undef,t.getD 2 undef,.pointer (some ⟨w.heap.size,0,none⟩),.pointer (some ⟨w.heap.size+1,0,none⟩),.pointer (some ⟨w.heap.size+1+1,0,none⟩),.pointer (some ⟨w.heap.size+1+1+1,0,none⟩),.pointer (some ⟨g,0,none⟩),t.getD 8 undef,t.getD 9 undef,t.getD 10 undef,t.getD 11 undef,t.getD 12 undef,t.getD 13 undef,t.getD 14 undef,t.getD 15 undef,t.getD 16 undef,t.getD 17 undef,t.getD 18 undef,t.getD 19 undef,t.getD 20 undef,t.getD 21 undef,t.getD 22 undef,t.getD 23 undef,t.getD 24 undef,t.getD 25 undef,t.getD 26 undef,t.getD 27 undef,t.getD 28 undef,t.getD 29 undef,t.getD 30 undef,t.getD 31 undef,t.getD 32 undef,t.getD 33 undef,t.getD 34 undef,t.getD 35 undef,t.getD 36 undef,t.getD 37 undef,t.getD 38 undef,t.getD 39 undef,t.getD 40 undef,t.getD 41 undef,t.getD 42 undef,t.getD 43 undef,t.getD 44 undef,t.getD 45 undef,t.getD 46 undef,t.getD 47 undef,t.getD 48 undef,t.getD 49 undef,t.getD 50 undef,t.getD 51 undef,t.getD 52 undef,t.getD 53 undef,t.getD 54 undef,t.getD 55 undef,t.getD 56 undef,t.getD 57 undef,t.getD 58 undef,t.getD 59 undef,t.getD 60 undef,t.getD 61 undef,t.getD 62 undef,t.getD 63 undef,t.getD 64 undef,t.getD 65 undef,t.getD 66 undef,t.getD 67 undef,t.getD 68 undef,t.getD 69 undef,t.getD 70 undef]=t->x0.heap.size<=g->x1.heap[g]?=some (.cells #[.int .i64 l0,.int .i64 l1] 60 (0,0))->Below x0.heap.size x0 x1->Exit.then K00 Q0 Exit.normal { tmps:=t,defers:=[] } x1:=by
    intro g_l x1 t ht l_ge l_k hw1
    obtain ⟨u1,hu⟩:∃ u:Nat->Value,t=#[u 0,u 1,u 2,.pointer (some ⟨w.heap.size,0,none⟩),.pointer (some ⟨w.heap.size+1,0,none⟩),.pointer (some ⟨w.heap.size+1+1,0,none⟩),.pointer (some ⟨w.heap.size+1+1+1,0,none⟩),.pointer (some ⟨g_l,0,none⟩),u 8,u 9,u 10,u 11,u 12,u 13,u 14,u 15,u 16,u 17,u 18,u 19,u 20,u 21,u 22,u 23,u 24,u 25,u 26,u 27,u 28,u 29,u 30,u 31,u 32,u 33,u 34,u 35,u 36,u 37,u 38,u 39,u 40,u 41,u 42,u 43,u 44,u 45,u 46,u 47,u 48,u 49,u 50,u 51,u 52,u 53,u 54,u 55,u 56,u 57,u 58,u 59,u 60,u 61,u 62,u 63,u 64,u 65,u 66,u 67,u 68,u 69,u 70]:=⟨fun k=>t.getD k undef,ht.symm⟩
    clear ht
    subst hu
    have H:=H.keeps hw1
    have a_k:=(hw1.block _ (Array.getElem?_eq_some_iff.1 a_k).1).trans a_k
    have b_k:=(hw1.block _ (Array.getElem?_eq_some_iff.1 b_k).1).trans b_k
    have c_k:=(hw1.block _ (Array.getElem?_eq_some_iff.1 c_k).1).trans c_k
    have r_k:=(hw1.block _ (Array.getElem?_eq_some_iff.1 r_k).1).trans r_k
    have hb1:=aa hb0 hw1
    go_wp2_with fail
    rename_i K2 hK2
    have HN2:∀ (g:Nat) (x2:World) (t:Array Value),#[t.getD 0 undef,t.getD 1 undef,t.getD 2 undef,.pointer (some ⟨w.heap.size,0,none⟩),.pointer (some ⟨w.heap.size+1,0,none⟩),.pointer (some ⟨w.heap.size+1+1,0,none⟩),.pointer (some ⟨w.heap.size+1+1+1,0,none⟩),.pointer (some ⟨g_l,0,none⟩),t.getD 8 undef,.pointer (some ⟨g,0,none⟩),t.getD 10 undef,t.getD 11 undef,t.getD 12 undef,t.getD 13 undef,t.getD 14 undef,t.getD 15 undef,t.getD 16 undef,t.getD 17 undef,t.getD 18 undef,t.getD 19 undef,t.getD 20 undef,t.getD 21 undef,t.getD 22 undef,t.getD 23 undef,t.getD 24 undef,t.getD 25 undef,t.getD 26 undef,t.getD 27 undef,t.getD 28 undef,t.getD 29 undef,t.getD 30 undef,t.getD 31 undef,t.getD 32 undef,t.getD 33 undef,t.getD 34 undef,t.getD 35 undef,t.getD 36 undef,t.getD 37 undef,t.getD 38 undef,t.getD 39 undef,t.getD 40 undef,t.getD 41 undef,t.getD 42 undef,t.getD 43 undef,t.getD 44 undef,t.getD 45 undef,t.getD 46 undef,t.getD 47 undef,t.getD 48 undef,t.getD 49 undef,t.getD 50 undef,t.getD 51 undef,t.getD 52 undef,t.getD 53 undef,t.getD 54 undef,t.getD 55 undef,t.getD 56 undef,t.getD 57 undef,t.getD 58 undef,t.getD 59 undef,t.getD 60 undef,t.getD 61 undef,t.getD 62 undef,t.getD 63 undef,t.getD 64 undef,t.getD 65 undef,t.getD 66 undef,t.getD 67 undef,t.getD 68 undef,t.getD 69 undef,t.getD 70 undef]=t->x1.heap.size<=g->x2.heap[g]?=some (.cells #[.int .i64 s0,.int .i64 s1] 60 (0,0))->Below x1.heap.size x1 x2->Exit.then K2 Q0 Exit.normal { tmps:=t,defers:=[] } x2:=by
      intro g_s x2 t ht s_ge s_k hw2
      obtain ⟨u2,hu⟩:∃ u:Nat->Value,t=#[u 0,u 1,u 2,.pointer (some ⟨w.heap.size,0,none⟩),.pointer (some ⟨w.heap.size+1,0,none⟩),.pointer (some ⟨w.heap.size+1+1,0,none⟩),.pointer (some ⟨w.heap.size+1+1+1,0,none⟩),.pointer (some ⟨g_l,0,none⟩),u 8,.pointer (some ⟨g_s,0,none⟩),u 10,u 11,u 12,u 13,u 14,u 15,u 16,u 17,u 18,u 19,u 20,u 21,u 22,u 23,u 24,u 25,u 26,u 27,u 28,u 29,u 30,u 31,u 32,u 33,u 34,u 35,u 36,u 37,u 38,u 39,u 40,u 41,u 42,u 43,u 44,u 45,u 46,u 47,u 48,u 49,u 50,u 51,u 52,u 53,u 54,u 55,u 56,u 57,u 58,u 59,u 60,u 61,u 62,u 63,u 64,u 65,u 66,u 67,u 68,u 69,u 70]:=⟨fun k=>t.getD k undef,ht.symm⟩
      clear ht
      subst hu
      have H:=H.keeps hw2
      have a_k:=(hw2.block _ (Array.getElem?_eq_some_iff.1 a_k).1).trans a_k
      have b_k:=(hw2.block _ (Array.getElem?_eq_some_iff.1 b_k).1).trans b_k
      have c_k:=(hw2.block _ (Array.getElem?_eq_some_iff.1 c_k).1).trans c_k
      have r_k:=(hw2.block _ (Array.getElem?_eq_some_iff.1 r_k).1).trans r_k
      have l_k:=(hw2.block _ (Array.getElem?_eq_some_iff.1 l_k).1).trans l_k
      have hb2:=aa hb1 hw2
      have f_l0:=ac l_k 0 rfl
      have f_l1:=ac l_k 1 rfl
      have f_s0:=ac s_k 0 rfl
      have f_s1:=ac s_k 1 rfl
      go_wp2_with fail
      clear f_l0 f_l1 f_s0 f_s1
      refine (S1.out _ H).mono ?_
      rintro _ ye ⟨rfl,hwe⟩
      replace a_k:=az (.cells #[.int .i64 lo,.int .i64 hi] 60) (am hwe a_k)
      replace b_k:=az (.cells #[.int .i64 lo,.int .i64 hi] 60) (am hwe b_k)
      replace c_k:=az (.cells #[.int .i64 lo,.int .i64 hi] 60) (am hwe c_k)
      replace r_k:=az (.cells #[.int .i64 lo,.int .i64 hi] 60) (am hwe r_k)
      replace H:=(H.keeps hwe).keeps (ah ye (.cells #[.int .i64 lo,.int .i64 hi] 60))
      have hbe:=aa (aa hb2 hwe) (ah ye (.cells #[.int .i64 lo,.int .i64 hi] 60))
      go_wp2_with fail
      generalize ye.alloc (.cells #[.int .i64 lo,.int .i64 hi] 60)=xe at a_k b_k c_k r_k H hbe ⊢
      refine (CS.out _).mono ?_
      rintro _ yf ⟨rfl,hwf⟩
      replace a_k:=am hwf a_k
      replace b_k:=am hwf b_k
      replace c_k:=am hwf c_k
      replace r_k:=am hwf r_k
      replace hbe:=aa hbe hwf
      replace H:=H.keeps hwf
      cases kb
      · have f_a0:=ac a_k 0 rfl
        have f_a1:=ac a_k 1 rfl
        have f_b0:=ac b_k 0 rfl
        have f_b1:=ac b_k 1 rfl
        have f_c0:=ac c_k 0 rfl
        have f_c1:=ac c_k 1 rfl
        go_wp2_with fail
        clear f_a0 f_a1 f_b0 f_b1 f_c0 f_c1
        refine (CX.out _ H).mono ?_
        rintro _ yg ⟨n_g,n_o,n_n,n_c,n_e,rfl,CG,hwg⟩
        replace r_k:=am hwg r_k
        replace hbe:=aa hbe hwg
        go_wp2_with fail
        refine (CG _ (aA _)).mono ?_
        rintro _ yh ⟨rfl,hwh⟩
        replace r_k:=am hwh r_k
        replace hbe:=aa hbe hwh
        have k0:=ac r_k 0 rfl
        have k1:=ac r_k 1 rfl
        have z0:=aw r_k 0
        have z1:=aw r_k 1
        go_wp2
        exact bodyPost_ret (v:=.agg #[.int .i64 sgn,.int .i64 6]) (by simp [results,Tryz.results15,go_sem,k0,k1]) rfl ⟨rfl,((hbe.setCell (p:=⟨w.heap.size+3,0,none⟩) (show w.heap.size<=w.heap.size+3 by omega) _).setCell (p:=⟨w.heap.size+3,1,none⟩) (show w.heap.size<=w.heap.size+3 by omega) _)⟩
      · obtain rfl:=HSO.out rfl
        have k0:=ac r_k 0 rfl
        have k1:=ac r_k 1 rfl
        have z0:=aw r_k 0
        have z1:=aw r_k 1
        go_wp2
        exact bodyPost_ret (v:=.agg #[.int .i64 sgo,.int .i64 5]) (by simp [results,Tryz.results15,go_sem,k0,k1]) rfl ⟨rfl,((hbe.setCell (p:=⟨w.heap.size+3,0,none⟩) (show w.heap.size<=w.heap.size+3 by omega) _).setCell (p:=⟨w.heap.size+3,1,none⟩) (show w.heap.size<=w.heap.size+3 by omega) _)⟩
    have KK2:∀ W,Below x1.heap.size x1 W->W.cell? ⟨w.heap.size,1,none⟩=some (.int .i64 ay)∧W.cell? ⟨w.heap.size+2,1,none⟩=some (.int .i64 cy)∧W.cell? ⟨w.heap.size+1,0,none⟩=some (.int .i64 bx)∧W.cell? ⟨w.heap.size+2,0,none⟩=some (.int .i64 cx):=fun W hb=>⟨aF (ac a_k 1 rfl) hb,aF (ac c_k 1 rfl) hb,aF (ac b_k 0 rfl) hb,aF (ac c_k 0 rfl) hb⟩
    have hC2_0:=(aA x1).drew
    have hT2_0:Below w.heap.size w x1.drew:=hb1.drew
    have H_2_0:=H.keeps (aA x1).drew
    have hs2_0:=(aA x1).drew
    go_region_held3 (fun W=>W.cell? ⟨w.heap.size,1,none⟩=some (.int .i64 ay)∧W.cell? ⟨w.heap.size+2,1,none⟩=some (.int .i64 cy)∧W.cell? ⟨w.heap.size+1,0,none⟩=some (.int .i64 bx)∧W.cell? ⟨w.heap.size+2,0,none⟩=some (.int .i64 cx))
      (with_reducible first | assumption | exact KK2 _ (ah _ _).drew | exact KK2 _ hC2_0 | exact KK2 _ hC2_1 | exact KK2 _ hC2_2 | exact KK2 _ hC2_3 | exact KK2 _ (aa hC2_0 (ah _ _)) | exact KK2 _ (aa hC2_1 (ah _ _)) | exact KK2 _ (aa hC2_2 (ah _ _)) | exact KK2 _ (aa hC2_3 (ah _ _)) | exact KK2 _ (cQ (hC2_3) (Nat.le_refl _) _ _) | exact KK2 _ (cQ (hC2_3) (hC2_1.size) _ _) | exact KK2 _ (cQ (hC2_3) (hC2_2.size) _ _) | fail)
      (first
        | (go_at_call 29; have _t:=hs2_2; refine (M2.out _ (H_2_2.keeps (by with_reducible first | exact aA _ | exact ah _ _ | exact cJ _ _))).mono ?_; rintro _ y2_3 ⟨rfl,hq2_3⟩; have hs2_3:Below y2_2.heap.size y2_2 y2_3:=(by with_reducible first | exact hq2_3 | exact aa (ah _ _) hq2_3 | exact aa (cJ _ _) hq2_3); have hT2_3:=aa hT2_2 hs2_3; have hC2_3:=aa hC2_2 hs2_3; have H_2_3:=H_2_2.keeps hs2_3; with_reducible first | (have qz2:y2_3.heap[x1.heap.size]?=some (.cells #[.int .i64 0,.int .i64 0] 60 (0,0)):=am hq2_3 (am hq2_2 (am hq2_1 (gL x1 (.cells #[.int .i64 0,.int .i64 0] 60)))); have cz2_0:=ac qz2 0 rfl; have zz2_0:=aw qz2 0; have cz2_1:=ac qz2 1 rfl; have zz2_1:=aw qz2 1) | (have qz2:y2_3.heap[y2_1.heap.size]?=some (.cells #[.int .i64 0,.int .i64 0] 60 (0,0)):=am hq2_3 (am hq2_2 (aB _ _)); have cz2_0:=ac qz2 0 rfl; have zz2_0:=aw qz2 0; have cz2_1:=ac qz2 1 rfl; have zz2_1:=aw qz2 1) | (have qz2:y2_3.heap[y2_2.heap.size]?=some (.cells #[.int .i64 0,.int .i64 0] 60 (0,0)):=am hq2_3 (aB _ _); have cz2_0:=ac qz2 0 rfl; have zz2_0:=aw qz2 0; have cz2_1:=ac qz2 1 rfl; have zz2_1:=aw qz2 1) | skip)
        | (go_at_call 30; have _t:=hs2_1; refine (A4.out _ (H_2_1.keeps (by with_reducible first | exact aA _ | exact ah _ _ | exact cJ _ _))).mono ?_; rintro _ y2_2 ⟨rfl,hq2_2⟩; have hs2_2:Below y2_1.heap.size y2_1 y2_2:=(by with_reducible first | exact hq2_2 | exact aa (ah _ _) hq2_2 | exact aa (cJ _ _) hq2_2); have hT2_2:=aa hT2_1 hs2_2; have hC2_2:=aa hC2_1 hs2_2; have H_2_2:=H_2_1.keeps hs2_2)
        | (go_at_call 30; refine (A3.out _ (H_2_0.keeps (by with_reducible first | exact aA _ | exact ah _ _ | exact cJ _ _))).mono ?_; rintro _ y2_1 ⟨rfl,hq2_1⟩; have hs2_1:Below x1.drew.heap.size x1.drew y2_1:=(by with_reducible first | exact hq2_1 | exact aa (ah _ _) hq2_1 | exact aa (cJ _ _) hq2_1); have hT2_1:=aa hT2_0 hs2_1; have hC2_1:=aa hC2_0 hs2_1; have H_2_1:=H_2_0.keeps hs2_1))
    · exact HN2 y2_3.heap.size _ _ (by kernel_rfl) ((aa (aa (aa (hs2_0) hs2_1) hs2_2) hs2_3).size) (aB _ _) (aa (aa (aa (aa (hs2_0) hs2_1) hs2_2) hs2_3) (ah _ _))
    · exact HN2 y2_2.heap.size _ _ (by kernel_rfl) ((aa (aa (hs2_0) hs2_1) hs2_2).size) (aE (aE (am hq2_3 (aB _ _)) 0 _) 1 _) (cQ (aa (aa (aa (hs2_0) hs2_1) hs2_2) hs2_3) ((aa (aa (hs2_0) hs2_1) hs2_2).size) _ _)
    · exact HN2 y2_1.heap.size _ _ (by kernel_rfl) ((aa (hs2_0) hs2_1).size) (aE (aE (am hq2_3 (am hq2_2 (aB _ _))) 0 _) 1 _) (cQ (aa (aa (aa (hs2_0) hs2_1) hs2_2) hs2_3) ((aa (hs2_0) hs2_1).size) _ _)
    · exact HN2 x1.heap.size _ _ (by kernel_rfl) (Nat.le_refl _) (aE (aE (am hq2_3 (am hq2_2 (am hq2_1 (gL x1 (.cells #[.int .i64 0,.int .i64 0] 60))))) 0 _) 1 _) (cQ (aa (aa (aa (hs2_0) hs2_1) hs2_2) hs2_3) (Nat.le_refl _) _ _)
  have KK1:∀ W,Below x0.heap.size x0 W->W.cell? ⟨w.heap.size,0,none⟩=some (.int .i64 ax)∧W.cell? ⟨w.heap.size+2,0,none⟩=some (.int .i64 cx)∧W.cell? ⟨w.heap.size+1,1,none⟩=some (.int .i64 by')∧W.cell? ⟨w.heap.size+2,1,none⟩=some (.int .i64 cy):=fun W hb=>⟨aF (ac a_k 0 rfl) hb,aF (ac c_k 0 rfl) hb,aF (ac b_k 1 rfl) hb,aF (ac c_k 1 rfl) hb⟩
  have hC1_0:=(aA x0).drew
  have hT1_0:Below w.heap.size w x0.drew:=hb0.drew
  have H_1_0:=H.keeps (aA x0).drew
  have hs1_0:=(aA x0).drew
  go_region_held3 (fun W=>W.cell? ⟨w.heap.size,0,none⟩=some (.int .i64 ax)∧W.cell? ⟨w.heap.size+2,0,none⟩=some (.int .i64 cx)∧W.cell? ⟨w.heap.size+1,1,none⟩=some (.int .i64 by')∧W.cell? ⟨w.heap.size+2,1,none⟩=some (.int .i64 cy))
    (with_reducible first | assumption | exact KK1 _ (ah _ _).drew | exact KK1 _ hC1_0 | exact KK1 _ hC1_1 | exact KK1 _ hC1_2 | exact KK1 _ hC1_3 | exact KK1 _ (aa hC1_0 (ah _ _)) | exact KK1 _ (aa hC1_1 (ah _ _)) | exact KK1 _ (aa hC1_2 (ah _ _)) | exact KK1 _ (aa hC1_3 (ah _ _)) | exact KK1 _ (cQ (hC1_3) (Nat.le_refl _) _ _) | exact KK1 _ (cQ (hC1_3) (hC1_1.size) _ _) | exact KK1 _ (cQ (hC1_3) (hC1_2.size) _ _) | fail)
    (first
      | (go_at_call 29; have _t:=hs1_2; refine (M1.out _ (H_1_2.keeps (by with_reducible first | exact aA _ | exact ah _ _ | exact cJ _ _))).mono ?_; rintro _ y1_3 ⟨rfl,hq1_3⟩; have hs1_3:Below y1_2.heap.size y1_2 y1_3:=(by with_reducible first | exact hq1_3 | exact aa (ah _ _) hq1_3 | exact aa (cJ _ _) hq1_3); have hT1_3:=aa hT1_2 hs1_3; have hC1_3:=aa hC1_2 hs1_3; have H_1_3:=H_1_2.keeps hs1_3; with_reducible first | (have qz1:y1_3.heap[x0.heap.size]?=some (.cells #[.int .i64 0,.int .i64 0] 60 (0,0)):=am hq1_3 (am hq1_2 (am hq1_1 (gL x0 (.cells #[.int .i64 0,.int .i64 0] 60)))); have cz1_0:=ac qz1 0 rfl; have zz1_0:=aw qz1 0; have cz1_1:=ac qz1 1 rfl; have zz1_1:=aw qz1 1) | (have qz1:y1_3.heap[y1_1.heap.size]?=some (.cells #[.int .i64 0,.int .i64 0] 60 (0,0)):=am hq1_3 (am hq1_2 (aB _ _)); have cz1_0:=ac qz1 0 rfl; have zz1_0:=aw qz1 0; have cz1_1:=ac qz1 1 rfl; have zz1_1:=aw qz1 1) | (have qz1:y1_3.heap[y1_2.heap.size]?=some (.cells #[.int .i64 0,.int .i64 0] 60 (0,0)):=am hq1_3 (aB _ _); have cz1_0:=ac qz1 0 rfl; have zz1_0:=aw qz1 0; have cz1_1:=ac qz1 1 rfl; have zz1_1:=aw qz1 1) | skip)
      | (go_at_call 30; have _t:=hs1_1; refine (A2.out _ (H_1_1.keeps (by with_reducible first | exact aA _ | exact ah _ _ | exact cJ _ _))).mono ?_; rintro _ y1_2 ⟨rfl,hq1_2⟩; have hs1_2:Below y1_1.heap.size y1_1 y1_2:=(by with_reducible first | exact hq1_2 | exact aa (ah _ _) hq1_2 | exact aa (cJ _ _) hq1_2); have hT1_2:=aa hT1_1 hs1_2; have hC1_2:=aa hC1_1 hs1_2; have H_1_2:=H_1_1.keeps hs1_2)
      | (go_at_call 30; refine (A1.out _ (H_1_0.keeps (by with_reducible first | exact aA _ | exact ah _ _ | exact cJ _ _))).mono ?_; rintro _ y1_1 ⟨rfl,hq1_1⟩; have hs1_1:Below x0.drew.heap.size x0.drew y1_1:=(by with_reducible first | exact hq1_1 | exact aa (ah _ _) hq1_1 | exact aa (cJ _ _) hq1_1); have hT1_1:=aa hT1_0 hs1_1; have hC1_1:=aa hC1_0 hs1_1; have H_1_1:=H_1_0.keeps hs1_1))
  · exact HN1 y1_3.heap.size _ _ (by kernel_rfl) ((aa (aa (aa (hs1_0) hs1_1) hs1_2) hs1_3).size) (aB _ _) (aa (aa (aa (aa (hs1_0) hs1_1) hs1_2) hs1_3) (ah _ _))
  · exact HN1 y1_2.heap.size _ _ (by kernel_rfl) ((aa (aa (hs1_0) hs1_1) hs1_2).size) (aE (aE (am hq1_3 (aB _ _)) 0 _) 1 _) (cQ (aa (aa (aa (hs1_0) hs1_1) hs1_2) hs1_3) ((aa (aa (hs1_0) hs1_1) hs1_2).size) _ _)
  · exact HN1 y1_1.heap.size _ _ (by kernel_rfl) ((aa (hs1_0) hs1_1).size) (aE (aE (am hq1_3 (am hq1_2 (aB _ _))) 0 _) 1 _) (cQ (aa (aa (aa (hs1_0) hs1_1) hs1_2) hs1_3) ((aa (hs1_0) hs1_1).size) _ _)
  · exact HN1 x0.heap.size _ _ (by kernel_rfl) (Nat.le_refl _) (aE (aE (am hq1_3 (am hq1_2 (am hq1_1 (gL x0 (.cells #[.int .i64 0,.int .i64 0] 60))))) 0 _) 1 _) (cQ (aa (aa (aa (hs1_0) hs1_1) hs1_2) hs1_3) (Nat.le_refl _) _ _)
end Go.Proofs.YtcjfonaolcokbaaGreatDoor
