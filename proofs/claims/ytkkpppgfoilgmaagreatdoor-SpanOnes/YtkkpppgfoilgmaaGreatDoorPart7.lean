/- Parts of the proof. -/
import Derived.Test.YtkkpppgfoilgmaaGreatDoorPart5
import Derived.Test.YtkkpppgfoilgmaaGreatDoorPart4
import Derived.Deep.RegionHeld3
import Derived.Test.YtkkpppgfoilgmaaGreatDoorPart6
import Derived.Test.YtkkpppgfoilgmaaGreatDoorPart3
import Derived.Deep.AppendLies
import Derived.Deep.RegionLaw
import Derived.Test.YtkkpppgfoilgmaaGreatDoorRows
import Derived.Test.YtkkpppgfoilgmaaGreatDoorPart2
import Derived.ProofKit
import Derived.OpenShut
import Derived.ChangeOld
import Derived.LaidMore
import Derived.Deep.Strs
import Derived.Lib.LaidTab
import Derived.MakeChecks
import Derived.Stop.LaidErr
set_option maxRecDepth 100000
set_option maxHeartbeats 8000000
set_option linter.unusedVariables false
set_option linter.unusedSimpArgs false
namespace Go.Proofs.YtkkpppgfoilgmaaGreatDoor
open Go Go.Proofs.Tryz Go.RowKit Go.Proofs.YtkkpppgfoilgmaaGreatDoor.M
def jZ (x y:aE):Int:=sg (x.ng != y.ng) (val x.d x.n*val y.d y.n)*pw (x.e+y.e)
theorem rO {x y:aE} (hx:-2097152<=x.e) (hy:-2097152<=y.e):jZ x y*2^4194304=x.V*y.V:=by
 unfold jZ aE.V
 rw[Int.mul_assoc,<- kK hx hy,<- tT];grind
theorem pM (x y:aE) (w:World) (hx:aG w x.ao x.n x.cap x.d) (hy:aG w y.ao y.n y.cap y.d) (sx:il x) (sy:il y) :
  Calls prog 153 #[x.v,y.v] w fun r w'=>∃ s,r=.returned (.agg #[.bool (x.ng != y.ng),s,.int .i64 (x.e+y.e)])∧bO w w' (val x.d x.n*val y.d y.n) s:=by
 obtain⟨an,ao,n,ca,a,e⟩:=x
 obtain⟨bn,bo,m,cb,b,f⟩:=y
 obtain⟨s1,s2,s3,s4⟩:=sx
 obtain⟨t1,t2,t3,t4⟩:=sy
 unfold aE.v
 simp only at *
 have hw:IntKind.i64.wrap (e+f)=e+f:=by rw[aR];omega
 have hb3:=dP w (.cells #[.bool an,.slice ao n ca,.int .i64 e] 26) (.cells #[.bool bn,.slice bo m cb,.int .i64 f] 26) (.cells #[.bool false,.slice none 0 0,.int .i64 0] 26)
 have g0:=nj w (.cells #[.bool an,.slice ao n ca,.int .i64 e] 26) (.cells #[.bool bn,.slice bo m cb,.int .i64 f] 26) (.cells #[.bool false,.slice none 0 0,.int .i64 0] 26)
 have g1:=nk w (.cells #[.bool an,.slice ao n ca,.int .i64 e] 26) (.cells #[.bool bn,.slice bo m cb,.int .i64 f] 26) (.cells #[.bool false,.slice none 0 0,.int .i64 0] 26)
 have g2:=ns w (.cells #[.bool an,.slice ao n ca,.int .i64 e] 26) (.cells #[.bool bn,.slice bo m cb,.int .i64 f] 26) (.cells #[.bool false,.slice none 0 0,.int .i64 0] 26)
 have hs3:=oQ w (.cells #[.bool an,.slice ao n ca,.int .i64 e] 26) (.cells #[.bool bn,.slice bo m cb,.int .i64 f] 26) (.cells #[.bool false,.slice none 0 0,.int .i64 0] 26)
 go_enter func153,ntmps153
 go_wp2_with fail
 have HX:=hx.keeps hb3
 have HY:=hy.keeps hb3
 generalize ((w.alloc (.cells #[.bool an,.slice ao n ca,.int .i64 e] 26)).alloc (.cells #[.bool bn,.slice bo m cb,.int .i64 f] 26)).alloc (.cells #[.bool false,.slice none 0 0,.int .i64 0] 26)=wx at hb3 g0 g1 g2 hs3 HX HY ⊢
 have k0:=ab g0 0 rfl
 have k1:=ab g0 1 rfl
 have k2:=ab g0 2 rfl
 have j0:=ab g1 0 rfl
 have j1:=ab g1 1 rfl
 have j2:=ab g1 2 rfl
 have hb1:=aq wx
 have C1:∀ W,Below wx.heap.size wx W->Calls prog 158 #[.slice ao n ca,.slice bo m cb] W fun r w'=>∃ so sn sc,r=.returned (.slice so sn sc)∧bO W w' (val a n*val b m) (.slice so sn sc)∧Below W.heap.size W w':=fun W h=>by
  refine(qQ ao bo n m ca cb a b W (HX.keeps h) (HY.keeps h) s1.1 t1.1 (by omega) (by omega)).mono ?_
  rintro r w' ⟨v,rfl,hA⟩
  obtain⟨so,sn,sc,rfl⟩:=hA.num.shape
  exact⟨so,sn,sc,rfl,hA,hA.below⟩
 go_region_held3 (fun W=>(W.cell? ⟨w.heap.size,0,none⟩=some (.bool an)∧W.cell? ⟨w.heap.size,1,none⟩=some (.slice ao n ca)∧W.cell? ⟨w.heap.size,2,none⟩=some (.int .i64 e))∧W.cell? ⟨w.heap.size+1,0,none⟩=some (.bool bn)∧W.cell? ⟨w.heap.size+1,1,none⟩=some (.slice bo m cb)∧W.cell? ⟨w.heap.size+1,2,none⟩=some (.int .i64 f))
  (first|assumption|exact⟨⟨k0,k1,k2⟩,j0,j1,j2⟩|exact⟨lD (W:=wx.drew) ⟨k0,k1,k2⟩ hbv1,lD (W:=wx.drew) ⟨j0,j1,j2⟩ hbv1⟩|exact⟨cJ (lD (W:=wx.drew) ⟨k0,k1,k2⟩ hbv1) (by omega) _ _ _,cJ (lD (W:=wx.drew) ⟨j0,j1,j2⟩ hbv1) (by omega) _ _ _⟩)
  (first|(go_at_call 158;refine(C1 _ hb1.drew).mono ?_;rintro y w3 ⟨so,sn,sc,rfl,hv,hbv1⟩;have q0:=(hbv1.block (w.heap.size+2) (by show _<wx.heap.size;omega)).trans g2;have x0:=ab q0 0 rfl;have x1:=ab q0 1 rfl;have x2:=ab q0 2 rfl;have z0:=ak q0 0;have z1:=ak q0 1;have z2:=ak q0 2)|fail)
 all_goals go_wp2
 all_goals
  refine bodyPost_ret (v:=.agg #[.bool (!(an == bn)),.slice so sn sc,.int .i64 (e+f)]) (by simp[results,results153,go_sem,x0,x1,x2]) rfl ⟨_,rfl,?_⟩
  exact lC (g:=w.heap.size+2) (hv.from hb1.drew) hb3 (by omega) (by omega) _ _ _
theorem wj (x y:aE) (g h:Nat) (w:World) (cg:w.heap[g]?=some (.cells #[.bool x.ng,.slice x.ao x.n x.cap,.int .i64 x.e] 26 (0,0))) (ch:w.heap[h]?=some (.cells #[.bool y.ng,.slice y.ao y.n y.cap,.int .i64 y.e] 26 (0,0)))
  (hx:aG w x.ao x.n x.cap x.d) (hy:aG w y.ao y.n y.cap y.d) (sx:il x) (sy:il y) (hT:eF w) :
  Calls prog 151 #[.pointer (some ⟨g,0,none⟩),.pointer (some ⟨h,0,none⟩)] w (v9 w (jZ x y)):=by
 have hP:=fun W hb=>pM x y W (hx.keeps hb) (hy.keeps hb) sx sy
 have hV:jZ x y=sg (x.ng != y.ng) (val x.d x.n*val y.d y.n)*pw (x.e+y.e):=rfl
 have he:-4194304<=x.e+y.e:=by have:=sx.2.2.1;have:=sy.2.2.1;omega
 have hlen:val x.d x.n*val y.d y.n<P 10000:=by
  have a1:=bz sx.1.1
  have a2:=bz sy.1.1
  have b1:=aJ sx.1.1
  have b2:=aJ sy.1.1
  have c1:val x.d x.n*val y.d y.n<=P x.n*val y.d y.n:=Int.mul_le_mul_of_nonneg_right (by omega) b2
  have c2:P x.n*val y.d y.n<P x.n*P y.n:=Int.mul_lt_mul_of_pos_left a2 (bp _)
  rw[<- i4] at c2
  have:=fJ (show x.n+y.n<=10000 by have:=sx.2.1;have:=sy.2.1;omega)
  omega
 generalize jZ x y=V at hV ⊢
 unfold aE.v at hP
 obtain⟨an,ao,n,ca,a,e⟩:=x
 obtain⟨bn,bo,m,cb,b,f⟩:=y
 simp only at cg ch hx hy hP hV he hlen
 have hb:=ae w (.cells #[.bool false,.slice none 0 0,.int .i64 0] 26)
 have g0:=am (.cells #[.bool false,.slice none 0 0,.int .i64 0] 26) cg
 have g1:=am (.cells #[.bool false,.slice none 0 0,.int .i64 0] 26) ch
 have k0:=ab g0 0 rfl
 have k1:=ab g0 1 rfl
 have k2:=ab g0 2 rfl
 have j0:=ab g1 0 rfl
 have j1:=ab g1 1 rfl
 have j2:=ab g1 2 rfl
 clear sx sy
 have HV:Hid (V=sg (an != bn) (val a n*val b m)*pw (e+f)):=hV
 clear hV
 go_enter func151,ntmps151
 go_wp2_with fail
 refine(hP _ hb).mono ?_
 rintro r w3 ⟨s,rfl,hA⟩
 obtain⟨so,sn,sc,d,rfl,hR,hN,hv⟩:=hA.num
 have hsn:sn<=10000:=hA.num.len hlen
 have hb3:=aa hb hA.below
 go_wp2_with fail
 refine(mE (V:=V) hR hN.1 (by omega) (hT.keeps hb3) he (by rw[hv];exact HV.out)).mono ?_
 rintro r w7 (⟨hok,v,rfl,hD⟩|⟨hno,rfl,hb7⟩)
 ·have hb7:=hD.below
  obtain⟨ng',s',m',e',rfl,hyy,hA2⟩:=id hD
  obtain⟨so',sn',sc',rfl⟩:=hA2.num.shape
  have q0:=((aa hA.below hb7).block w.heap.size (by rw[fG];omega)).trans (a9 _ _)
  have x0:=ab q0 0 rfl
  have x1:=ab q0 1 rfl
  have x2:=ab q0 2 rfl
  have z0:=ak q0 0
  have z1:=ak q0 1
  have z2:=ak q0 2
  go_wp2
  refine bodyPost_ret (v:=.agg #[.bool ng',.slice so' sn' sc',.int .i64 e']) (by simp[results,results151,go_sem,x0,x1,x2]) rfl ?_
  exact .inl ⟨hok,_,rfl,b8 (g:=w.heap.size) hD hb3 (Nat.le_refl _) (Nat.lt_of_lt_of_le (by rw[fG];omega) hA.below.size) _ _ _⟩
 ·exact⟨rfl,.inr ⟨hno,rfl,aa hb3 hb7⟩⟩
theorem yr (x y:aE) (w:World) (hx:aG w x.ao x.n x.cap x.d) (hy:aG w y.ao y.n y.cap y.d) (ox:bV x=true) (oy:bV y=true) (hT:eF w) :
  Calls prog 142 #[x.v,y.v] w fun r w'=>∃ v er,r=.returned (.tuple #[v,.int .i64 er])∧gg w w' (jZ x y) v er:=by
 have hmf:∀ (fn:Fn) (first cap:Array Value) (w:World),(Instr.makeFunc fn first cap).run prog w=.ok (.func fn first cap) w:=fun _ _ _ _=>rfl
 have hE:∀ (cap:Array Value) (w:World),(callFunc 151 cap).run prog w=.ok (.enter 151 cap) w:=by
  intro cap w
  simp[go_sem]
 have hA:=Al x y
 rw[ox,oy] at hA
 have hN:=fun W q hb=>BJ (w:=W) (g:=w.heap.size+3) (x:=x) (y:=y) (t:=26) q (hx.keeps hb) (hy.keeps hb)
 have hC:=fun W hb cg ch=>wj x y w.heap.size (w.heap.size+1) W cg ch (hx.keeps hb) (hy.keeps hb) (a8 ox) (a8 oy) (hT.keeps hb)
 generalize tc x y=pr at hA hN
 generalize jZ x y=V at hC ⊢
 clear ox oy
 obtain⟨an,ao,n,ca,a,e⟩:=x
 obtain⟨bn,bo,m,cb,b,f⟩:=y
 unfold aE.v
 simp only at hx hy hN hC ⊢
 go_enter func142,ntmps142
 go_wp2_with fail
 refine(qP _ _ _ _ _ (hN _ (Aj _ _ _ _ _) (pH _ _ _ _ _))).mono ?_
 rw[hA]
 rintro r w1 ⟨rfl,hb1⟩
 have hbw:=aa (pH w _ _ _ _) hb1
 have g0:=(hb1.block w.heap.size (by rw[oR];omega)).trans (Ag _ _ _ _ _)
 have g1:=(hb1.block (w.heap.size+1) (by rw[oR];omega)).trans (Ah _ _ _ _ _)
 have g2:=(hb1.block (w.heap.size+2) (by rw[oR];omega)).trans (Ai _ _ _ _ _)
 have hs4:w.heap.size+4<=w1.heap.size:=by have:=hb1.size;rw[oR] at this;exact this
 go_wp2_with fail
 refine(wa (V:=V) (hE _) (fun W hW=>hC W (aa hbw hW) ((hW.block _ (by omega)).trans g0) ((hW.block _ (by omega)).trans g1))).mono ?_
 rintro r w2 ⟨v,er,rfl,hF⟩
 obtain⟨ng',so,sn,sc,e',rfl⟩:=hF.shape
 have q0:=(hF.1.block (w.heap.size+2) (by omega)).trans g2
 have x0:=ab q0 0 rfl
 have x1:=ab q0 1 rfl
 have x2:=ab q0 2 rfl
 have z0:=ak q0 0
 have z1:=ak q0 1
 have z2:=ak q0 2
 go_wp2
 refine bodyPost_ret (v:=.tuple #[.agg #[.bool ng',.slice so sn sc,.int .i64 e'],.int .i64 er]) (by simp[results,results142,go_sem,x0,x1,x2]) rfl ⟨_,_,rfl,?_⟩
 exact v7 (g:=w.heap.size+2) hF hbw (by omega) (by omega) _ _ _
theorem aK {W w':World} {g h:Nat} {a b c d e f:Value} (hb:Below W.heap.size W w') (hS:(W.cell? ⟨g,0,none⟩=some a∧W.cell? ⟨g,1,none⟩=some b∧W.cell? ⟨g,2,none⟩=some c)∧W.cell? ⟨h,0,none⟩=some d∧W.cell? ⟨h,1,none⟩=some e∧W.cell? ⟨h,2,none⟩=some f) :
  (w'.cell? ⟨g,0,none⟩=some a∧w'.cell? ⟨g,1,none⟩=some b∧w'.cell? ⟨g,2,none⟩=some c)∧w'.cell? ⟨h,0,none⟩=some d∧w'.cell? ⟨h,1,none⟩=some e∧w'.cell? ⟨h,2,none⟩=some f :=
 ⟨lD hS.1 hb,lD hS.2 hb⟩
theorem aX.open {w:World} {v:Value} {V:Int} (h:aX w v V) (ok:b7 V):∃ x:aE,v=x.v∧aG w x.ao x.n x.cap x.d∧bV x=true∧x.V=V:=by
 obtain⟨ng,s,m,e,rfl,hy,ao,n,cap,d,rfl,hR,hN,rfl⟩:=h
 refine⟨⟨ng,ao,n,cap,d,e⟩,rfl,hR,?_,hy.val.symm⟩
 obtain⟨o1,o2,o3⟩:=hy.ok.1 ok
 refine decide_eq_true ?_
 by_cases h0:n=0
 ·left
  have hz:val d n=0:=by rw[h0];rfl
  rcases hy.form with⟨_,f2,f3⟩|⟨f1,_⟩
  ·exact⟨h0,f2,f3⟩
  ·omega
 ·right
  have hp:=dK hN (show 0<n by omega)
  rcases hy.form with⟨f1,_⟩|⟨_,f2⟩
  ·omega
  ·refine⟨by show 0<n;omega,⟨?_,hN⟩,?_,o2,o3⟩
   ·exact aT.len (w:=w) (ao:=ao) (cap:=cap) ⟨_,_,_,_,rfl,hR,hN,rfl⟩ o1
   ·obtain⟨k,hk⟩:∃ k,n=1+k:=⟨n-1,by omega⟩
    have:=cA d 1 k
    rw[<- hk] at this
    rw[this,show val d 1=d 0 by show 0+d 0*1=_;omega,show P 1=1073741824 from rfl] at f2
    show d 0 % 2=1
    omega
theorem gg.yes {w w':World} {V er:Int} {v:Value} (h:gg w w' V v er) (ok:b7 V):er=0∧aZ w w' V v:=by
 rcases h.2 with⟨_,h1,h2⟩|⟨hn,_⟩
 ·exact⟨h1,h2⟩
 ·exact absurd ok hn
theorem BM {w:World} {x y:Value} {A B:Int} (hx:aX w x A) (hy:aX w y B) (oA:b7 A) (oB:b7 B) (hT:eF w) :
  Calls prog 142 #[x,y] w fun r w'=>∃ v er C,r=.returned (.tuple #[v,.int .i64 er])∧C*2^4194304=A*B∧gg w w' C v er:=by
 obtain⟨x,rfl,hR,ok,rfl⟩:=hx.open oA
 obtain⟨y,rfl,hR',ok',rfl⟩:=hy.open oB
 refine(yr x y w hR hR' ok ok' hT).mono ?_
 rintro r w' ⟨v,er,rfl,hF⟩
 exact⟨v,er,_,rfl,rO (by have:=(a8 ok).2.2.1;omega) (by have:=(a8 ok').2.2.1;omega),hF⟩
theorem yt (ao:Option Addr) (n ca q p:Nat) (a:Nat->Int) (w:World) (ha:aG w ao n ca a) (da:aO a n) (hn:n<=100000) (hq:q<=100000) (hp:p<30) (k:Int) (hk:k=30*q+p) :
  Calls prog 97 #[.slice ao n ca,.int .i64 k] w fun e w'=>∃ v,e=.returned v∧bO w w' (P q*(2^p*val a n)) v:=by
 have hla:=ha.le
 have hma:=ha.max
 have e1:k/30=q:=by omega
 have e2:k % 30=p:=by omega
 have hk0:0<=k:=by omega
 clear hk
 have hu:=aF p
 have hu2:(2:Int)^p<=2^29:=cc (by omega)
 by_cases hn0:n=0
 ·subst hn0
  have H0:Hid (P q*(2^p*val a 0)=0):=by show _=_;simp[val]
  go_enter func97,ntmps97
  go_wp2
  go_ret
  exact⟨_,rfl,by rw[H0.out];exact bO.nil (aq _)⟩
 ·have en:((n:Int) == 0)=false:=by simp;omega
  go_enter func97,ntmps97
  go_wp2_with (at_make;refine gX rfl _ _ rfl _ _ q rfl rfl (by omega) (by omega) (by omega) ?_;intro w1 hB1 hb1)
  rw[e2]
  go_loopw [5,7,8] (fun l c i wr=>∃ (k:Nat) (c':Int) (r:Nat->Int),k<=n∧i=.int .i64 k∧c=.int .i64 c'∧0<=c'∧c'<2^p∧aV w.heap.size wr l (q+k) r∧aO r (q+k)∧Hid (∀ i,i<q->r i=0)∧Hid (val (fun i=>r (q+i)) k+c'*P k=2^p*val a k)∧Below w.heap.size w wr) (fun _ _ i _=>n-(intOf i).toNat)
  case atStart=>exact⟨0,0,fun _=>0,Nat.zero_le _,rfl,rfl,by omega,hu,hB1.out (Nat.le_refl _) (Nat.le_refl _) (by omega),jO _,fun _ _=>rfl,by show _=_;show(0:Int)+0*1=2^p*0;omega,hb1⟩
  case round=>
   obtain⟨k,c,r,hk,rfl,rfl,hc0,hc1,hO,hD,HZ,HV,hbw⟩:=hrel
   by_cases hlt:k<n
   ·obtain⟨ba,fa,rfl,hba,hca⟩:=ha.spot (by omega)
    have c1:=(hbw.cell (p:=⟨ba,fa+k,none⟩) hba).trans (hca k hlt)
    have dk:=da k hlt
    obtain⟨s0,s1,s2⟩:=nf dk (show p<=30 by omega)
    have hc2:(a k*2^p+c)/1073741824<2^p:=by omega
    go_wp2_with (at_builtin;refine bU rfl _ _ rfl w.heap.size _ (q+k) r rfl (hO.stays (ae _ _)) _ 1 1 (fun _=>(a k*2^p+c) % 1073741824) rfl (gf _ _ rfl) (by omega) (by have:=hbw.size;simp;omega) ?_;intro v' w1 hO1 hg1)
    have hb1:Below w.heap.size w w1:=(hbw.alloc hbw.size _).grown hg1 (by have:=hbw.size;simp;omega) (c7 hO)
    have hs:=cM (x:=a k*2^p) HV.out
    rw[Int.add_comm c] at hs
    go_roundw
    case rel=>exact⟨k+1,(a k*2^p+c)/1073741824,bK r (q+k) ((a k*2^p+c) % 1073741824),by omega,by go_num,rfl,by omega,hc2,hO1.congr (c6 r (q+k) _),c8 hD (fk _),fun i hi=>by rw[aP r _ (by omega)];exact HZ.out i hi,by show _=_;rw[nW,hs,aI];grind,hb1⟩
    case measure=>simp[intOf];omega
   ·obtain rfl:k=n:=by omega
    go_wp2_with (at_builtin;refine bU rfl _ _ rfl w.heap.size _ (q+k) r rfl (hO.stays (ae _ _)) _ 1 1 (fun _=>c) rfl (gf _ _ rfl) (by omega) (by have:=hbw.size;simp;omega) ?_;intro v' w1 hO1 hg1)
    have hb1:Below w.heap.size w w1:=(hbw.alloc hbw.size _).grown hg1 (by have:=hbw.size;simp;omega) (c7 hO)
    have D2:aO (bK r (q+k) c) (q+k+1):=c8 hD ⟨hc0,by omega⟩
    refine(i8 (hO1.congr (c6 r (q+k) c)) D2 hb1).mono ?_
    rintro e w3 ⟨v',rfl,hA,rfl⟩
    go_wp2
    go_ret
    refine⟨_,rfl,?_⟩
    rw[Nat.add_assoc,mw _ _ _ (fun i hi=>by rw[aP r _ (by omega)];exact HZ.out i hi),nW,aI,a6,iy _ _ (Nat.le_refl _),HV.out] at hA
    exact hA
theorem iS (ao:Option Addr) (n ca k:Nat) (a:Nat->Int) (w:World) (ha:aG w ao n ca a) (da:aO a n) (hn:n<=100000) (hk:k<=2000000) :
  Calls prog 97 #[.slice ao n ca,.int .i64 k] w fun e w'=>∃ v,e=.returned v∧bO w w' (val a n*2^k) v:=by
 refine(yt ao n ca (k/30) (k % 30) a w ha da hn (by omega) (by omega) k (by omega)).mono ?_
 rintro e w' ⟨v,he,h⟩
 refine⟨v,he,?_⟩
 rw[i5 k]
 rwa [show val a n*(P (k/30)*2^(k % 30))=P (k/30)*(2^(k % 30)*val a n) by grind]
theorem yu (ao:Option Addr) (n ca q p:Nat) (a:Nat->Int) (w:World) (ha:aG w ao n ca a) (da:aO a n) (hn:n<=100000) (hp:p<30) (k:Int) (hk:k=30*q+p) (hkm:k<=4000000) :
    Calls prog 104 #[.slice ao n ca,.int .i64 k] w fun e w'=>∃ v,e=.returned v∧bO w w' (val a n/P q/2^p) v:=by
  have hla:=ha.le
  have hma:=ha.max
  have e1:k/30=q:=by omega
  have e2:k % 30=p:=by omega
  have hk0:0<=k:=by omega
  have hq1:q<=200000:=by omega
  clear hk
  have hu:=aF p
  have hu2:(2:Int)^p<=2^29:=cc (by omega)
  have huv:(2:Int)^p*2^(30-p)=1073741824:=by rw[<- Int.pow_add,show p+(30-p)=30 by omega];rfl
  have HU:Hid ((2:Int)^p*2^(30-p)=1073741824):=huv
  have hdv:(1073741824:Int)/2^p=2^(30-p):=by rw[<- huv];exact Int.mul_ediv_cancel_left _ (by omega)
  have hz:((2:Int)^p == 0)=false:=by simp;omega
  clear huv
  by_cases hqn:n<=q
  · have H0:Hid (val a n/P q/2^p=0):=by
      show _=_
      rw[Int.ediv_eq_zero_of_lt (aJ da) (by have:=bz da;have:=fJ hqn;omega)];exact Int.zero_ediv _
    go_enter func104,ntmps104
    go_wp2
    go_ret
    exact⟨_,rfl,by rw[H0.out];exact bO.nil (aq _)⟩
  · obtain⟨ba,fa,rfl,hba,hca⟩:=ha.spot (by omega)
    obtain⟨N,hN⟩:∃ N,n=q+N:=⟨n-q,by omega⟩
    have HN:Hid (n=q+N):=hN
    have hn1:q+N<=n:=by omega
    have hn2:n<=q+N:=by omega
    have hN0:0<N:=by omega
    clear hN
    go_enter func104,ntmps104
    go_wp2
    rw[e1,e2]
    go_loopw [5,7] (fun l i wr=>∃ (k:Nat) (r:Nat->Int),k<=N∧i=.int .i64 ((q:Int)+k)∧aV w.heap.size wr l k r∧Hid (∀ i,i<k->r i=low (fun j=>aY a n (q+j)) (2^p) (2^(30-p)) i)∧Below w.heap.size w wr) (fun _ i _=>n-(intOf i).toNat)
    case atStart=>exact⟨0,fun _=>0,Nat.zero_le _,by simp,aV.nil _ _ _,fun i hi=>by omega,aq _⟩
    case round=>
      obtain⟨k,r,hk,rfl,hO,HV,hbw⟩:=hrel
      by_cases hlt:k<N
      · have c1:=(hbw.cell (p:=⟨ba,fa+(q+k),none⟩) hba).trans (hca (q+k) (by omega))
        have dx:=da (q+k) (by omega)
        by_cases hl2:q+k+1<n
        · have dy:=da (q+k+1) (by omega)
          obtain⟨s0,s1,s2,s3,s4⟩:=ma dx dy hp
          have s5:0<=a (q+k+1) % 2^p*2^(30-p):=Int.mul_nonneg s3 (Int.le_of_lt (aF _))
          have s6:(2:Int)^(30-p)<=2^30:=cc (by omega)
          have c2:=(hbw.cell (p:=⟨ba,fa+(q+k+1),none⟩) hba).trans (hca (q+k+1) (by omega))
          clear s2
          go_wp2
          go_quiet (fail)
          go_wp2_with (at_builtin;refine bU rfl _ _ rfl w.heap.size _ k r rfl ((hO.stays (a5 (aq _) _)).stays (ae _ _)) _ 1 1 (fun _=>(a (q+k)/2^p+a (q+k+1) % 2^p*2^(30-p))) rfl (gf _ _ rfl) (by omega) (by have:=hbw.size;simp[World.drewN];omega) ?_;intro v' w1 hO1 hg1)
          have hb1:Below w.heap.size w w1:=((a5 hbw _).alloc hbw.size _).grown hg1 (by have:=hbw.size;simp[World.drewN];omega) (c7 hO)
          go_roundw
          case rel=>exact ⟨k+1,bK r k (a (q+k)/2^p+a (q+k+1) % 2^p*2^(30-p)),by omega,by go_num,hO1.congr (c6 r k _),fun i hi=>by
              by_cases e:i=k
              · rw[e,a6]
                show _=aY a n (q+k)/2^p+aY a n (q+(k+1)) % 2^p*2^(30-p)
                rw[cD a (by omega),cD a (by omega),Nat.add_assoc]
              · rw [aP _ _ e]; exact HV.out i (by omega),hb1⟩
          case measure=>simp[intOf];omega
        · obtain⟨s0,s1,_,_,_⟩:=ma dx dx hp
          have s6:(2:Int)^(30-p)<=2^30:=cc (by omega)
          go_wp2_with (at_builtin;refine bU rfl _ _ rfl w.heap.size _ k r rfl (hO.stays (ae _ _)) _ 1 1 (fun _=>(a (q+k)/2^p)) rfl (gf _ _ rfl) (by omega) (by have:=hbw.size;simp;omega) ?_;intro v' w1 hO1 hg1)
          have hb1:Below w.heap.size w w1:=(hbw.alloc hbw.size _).grown hg1 (by have:=hbw.size;simp;omega) (c7 hO)
          go_roundw
          case rel=>exact ⟨k+1,bK r k (a (q+k)/2^p),by omega,by go_num,hO1.congr (c6 r k _),fun i hi=>by
              by_cases e:i=k
              · rw[e,a6,pE (s:=fun j=>aY a n (q+j)) (eL a (by omega)),cD a (by omega)]
              · rw [aP r _ e]; exact HV.out i (by omega),hb1⟩
          case measure=>simp[intOf];omega
      · obtain rfl:k=N:=by omega
        have DS:aO (fun j=>aY a n (q+j)) (k+1):=fun i hi=>ru da (q+k+1) (q+i) (by omega)
        have D2:aO r k:=(rx hu HU.out DS).congr fun i hi=>(HV.out i hi).symm
        have HD2:Hid (aO r k):=D2
        clear D2 DS
        go_wp2_with fail
        refine(i8 hO HD2.out hbw).mono ?_
        rintro e w3 ⟨v',rfl,hA,rfl⟩
        go_wp2
        go_ret
        refine⟨_,rfl,?_⟩
        rw[dr HV.out,tS (s:=fun j=>aY a n (q+j)) hu HU.out (eL a (by omega))] at hA
        have e3:=lZ a (show q<=n by omega) da
        rw[<- e3,show n-q=k by omega]
        rw[show val (fun j=>aY a n (q+j)) k=val (fun i=>a (q+i)) k from dr fun i hi=>cD a (by omega)] at hA
        exact hA
theorem pN (ao:Option Addr) (n ca k:Nat) (a:Nat->Int) (w:World) (ha:aG w ao n ca a) (da:aO a n) (hn:n<=100000) (hk:k<=4000000) :
  Calls prog 104 #[.slice ao n ca,.int .i64 k] w fun e w'=>∃ v,e=.returned v∧bO w w' (val a n/2^k) v:=by
 refine(yu ao n ca (k/30) (k % 30) a w ha da hn (by omega) k (by omega) (by omega)).mono ?_
 rintro e w' ⟨v,he,h⟩
 refine⟨v,he,?_⟩
 rw[i5 k,<- Int.ediv_ediv_of_nonneg (Int.le_of_lt (bp _))]
 exact h
def mf {α:Type} (v:Nat->α) (i:Nat) (x:α):Nat->α:=fun j=>if j=i then x else v j
theorem hH {α:Type} (v:Nat->α) (i:Nat) (x:α):mf v i x i=x:=by simp[mf]
theorem fm {α:Type} (v:Nat->α) {i j:Nat} (x:α) (h:j≠i):mf v i x j=v j:=by simp[mf,h]
def BN (v:Nat->Value) (m:Nat):List Value:=(List.range m).map v
def io (B:Nat) (w:World) (x:Value) (m:Nat) (v:Nat->Value):Prop:=w.ownsRow B 24 1 x m (BN v m)
theorem io.shape {B:Nat} {w:World} {x:Value} {m:Nat} {v:Nat->Value} (h:io B w x m v):∃ xo xc,x=.slice xo m xc∧m<=xc∧xc<=9223372036854775807∧(0<m->∃ g,xo=some ⟨g,0,none⟩):=by
 rcases h.2 with⟨rfl,rfl⟩|⟨g,cap,cur,rfl,hb,hg,hn,hm,_⟩
 ·exact⟨none,0,rfl,Nat.le_refl _,by decide,fun h=>by omega⟩
 ·exact⟨_,cap,rfl,hn,by unfold maxLen at hm;exact hm,fun _=>⟨g,rfl⟩⟩
theorem io.of_block {B:Nat} {w w':World} {x:Value} {m:Nat} {v:Nat->Value} (h:io B w x m v) (hb:∀ g,x.ownBlock=some g->w'.heap[g]?=w.heap[g]?):io B w' x m v:=by
 refine⟨h.1,?_⟩
 rcases h.2 with hn|⟨g,cap,cur,rfl,hbb,hg,rest⟩
 ·exact .inl hn
 ·exact .inr ⟨g,cap,cur,rfl,hbb,(hb g rfl).trans hg,rest⟩
theorem aV.of_block {B:Nat} {w w':World} {x:Value} {n:Nat} {d:Nat->Int} (h:aV B w x n d) (hb:∀ g,x.ownBlock=some g->w'.heap[g]?=w.heap[g]?):aV B w' x n d:=by
 refine⟨h.1,?_⟩
 rcases h.2 with hn|⟨g,cap,cur,rfl,hbb,hg,rest⟩
 ·exact .inl hn
 ·exact .inr ⟨g,cap,cur,rfl,hbb,(hb g rfl).trans hg,rest⟩
theorem aV.typed {B:Nat} {w:World} {x:Value} {n:Nat} {d:Nat->Int} (h:aV B w x n d) {g:Nat} (hg:x.ownBlock=some g):∃ cur z,w.heap[g]?=some (.cells cur 3 z):=by
 rcases h.2 with⟨rfl,_⟩|⟨g',cap,cur,rfl,hbb,hg',rest⟩
 ·simp[Value.ownBlock] at hg
 ·simp only[Value.ownBlock,Option.some.injEq] at hg;subst hg;exact⟨cur,_,hg'⟩
theorem io.typed {B:Nat} {w:World} {x:Value} {n:Nat} {v:Nat->Value} (h:io B w x n v) {g:Nat} (hg:x.ownBlock=some g):∃ cur z,w.heap[g]?=some (.cells cur 24 z):=by
 rcases h.2 with⟨rfl,_⟩|⟨g',cap,cur,rfl,hbb,hg',rest⟩
 ·simp[Value.ownBlock] at hg
 ·simp only[Value.ownBlock,Option.some.injEq] at hg;subst hg;exact⟨cur,_,hg'⟩
theorem io.ge {B:Nat} {w:World} {x:Value} {n:Nat} {v:Nat->Value} (h:io B w x n v) {g:Nat} (hg:x.ownBlock=some g):B<=g∧g<w.heap.size:=by
 rcases h.2 with⟨rfl,_⟩|⟨g',cap,cur,rfl,hbb,hg',rest⟩
 ·simp[Value.ownBlock] at hg
 ·simp only[Value.ownBlock,Option.some.injEq] at hg;subst hg;exact⟨hbb,(aGe hg').1⟩
theorem aV.ge {B:Nat} {w:World} {x:Value} {n:Nat} {v:Nat->Int} (h:aV B w x n v) {g:Nat} (hg:x.ownBlock=some g):B<=g∧g<w.heap.size:=by
 rcases h.2 with⟨rfl,_⟩|⟨g',cap,cur,rfl,hbb,hg',rest⟩
 ·simp[Value.ownBlock] at hg
 ·simp only[Value.ownBlock,Option.some.injEq] at hg;subst hg;exact⟨hbb,(aGe hg').1⟩
theorem io.alloc {B:Nat} {w:World} {x:Value} {m:Nat} {v:Nat->Value} (h:io B w x m v) (o:Obj):io B (w.alloc o) x m v:=h.of_block fun g hg=>Below.heap_alloc _ _ _ (h.ge hg).2
def An (B:Nat) (w:World) (v:Value) (V:Int):Prop:=∃ t d,aV B w v t d∧bt d t∧val d t=V
theorem An.keeps {B:Nat} {w w':World} {v:Value} {V:Int} (h:An B w v V) (k:Below w.heap.size w w'):An B w' v V:=by
 obtain⟨t,d,h1,h2⟩:=h
 exact⟨t,d,h1.stays k,h2⟩
theorem An.lower {B B':Nat} {w:World} {v:Value} {V:Int} (h:An B w v V) (hB:B'<=B):An B' w v V:=by
 obtain⟨t,d,h1,h2⟩:=h
 exact⟨t,d,h1.lower hB,h2⟩
theorem An.nil (B:Nat) (w:World):An B w (.slice none 0 0) 0:=⟨0,fun _=>0,aV.nil _ _ _,⟨fun i hi=>by omega,.inl rfl⟩,rfl⟩
theorem bO.an {w w':World} {V:Int} {v:Value} (h:bO w w' V v):An w.heap.size w' v V:=by
 obtain⟨t,d,h1,h2,h3,h4⟩:=h
 exact⟨t,d,h1,h2,h3⟩
theorem An.shape {B:Nat} {w:World} {v:Value} {V:Int} (h:An B w v V):∃ ao n cap,v=.slice ao n cap:=by
 obtain⟨t,d,h1,h2⟩:=h
 obtain⟨ao,cap,e,_⟩:=h1.row
 exact⟨ao,t,cap,e⟩
theorem An.num {B:Nat} {w:World} {v:Value} {V:Int} (h:An B w v V):aT w v V:=by
 obtain⟨t,d,h1,h2,h3⟩:=h
 obtain⟨ao,cap,rfl,hR⟩:=h1.row
 exact⟨ao,t,cap,d,rfl,hR,h2,h3⟩
theorem An.ge {B:Nat} {w:World} {v:Value} {V:Int} (h:An B w v V) {g:Nat} (hg:v.ownBlock=some g):B<=g∧g<w.heap.size:=by
 obtain⟨t,d,h1,h2,h3⟩:=h
 exact h1.ge hg
def S2 (S:Nat->Prop) (l:Value) (s:Nat):Nat->Prop:=fun g=>S g∨l.ownBlock=some g∨s<=g
def ji (B:Nat) (w:World) (V:Int) (v:Value) (er:Int):Prop:=(V<P 2000∧er=0∧An B w v V)∨(P 2000<=V∧er=2∧v=.slice none 0 0)
theorem ji.keeps {B:Nat} {w w':World} {v:Value} {V er:Int} (h:ji B w V v er) (k:Below w.heap.size w w'):ji B w' V v er:=by
 rcases h with⟨h1,h2,h3⟩|h
 ·exact .inl ⟨h1,h2,h3.keeps k⟩
 ·exact .inr h
theorem ji.lower {B B':Nat} {w:World} {v:Value} {V er:Int} (h:ji B w V v er) (hB:B'<=B):ji B' w V v er:=by
 rcases h with⟨h1,h2,h3⟩|h
 ·exact .inl ⟨h1,h2,h3.lower hB⟩
 ·exact .inr h
theorem ji.ge {B:Nat} {w:World} {v:Value} {V er:Int} (h:ji B w V v er) {g:Nat} (hg:v.ownBlock=some g):B<=g∧g<w.heap.size:=by
 rcases h with⟨h1,h2,h3⟩|⟨_,_,rfl⟩
 ·exact h3.ge hg
 ·simp[Value.ownBlock] at hg
theorem ji.shape {B:Nat} {w:World} {v:Value} {V er:Int} (h:ji B w V v er):∃ ao n cap,v=.slice ao n cap:=by
 rcases h with⟨h1,h2,h3⟩|⟨_,_,rfl⟩
 ·exact h3.shape
 ·exact⟨_,_,_,rfl⟩
def xF (a:Nat->Int) (n:Nat):Nat->Int:=kG a n (fun i=>-71-(i:Int))
def oS (w w':World) (v:Value) (n:Nat) (a:Nat->Int):Prop:=∃ g cap,v=.slice (some ⟨g,0,none⟩) (n+3) cap∧aV w.heap.size w' v (n+3) (xF a n)∧Below w.heap.size w w'
theorem oS.below {w w':World} {v:Value} {n:Nat} {a:Nat->Int} (h:oS w w' v n a):Below w.heap.size w w':=by
 obtain⟨g,cap,_,_,hb⟩:=h
 exact hb
theorem oS.parts {w w':World} {v:Value} {n:Nat} {a:Nat->Int} (h:oS w w' v n a):∃ g cap,v=.slice (some ⟨g,0,none⟩) (n+3) cap∧aV w.heap.size w' (.slice (some ⟨g,0,none⟩) (n+3) cap) (n+3) (xF a n):=by
 obtain⟨g,cap,rfl,h,_⟩:=h
 exact⟨g,cap,rfl,h⟩
theorem qV {A l m:Int} (h:jT A l) (k:jT A m):l=m:=by
 have hz:∀ i:Nat,¬ cm 0 i:=fun i ⟨q,e⟩=>by
  have h2:=aF i
  have h3:(2*q+1)≠0:=by omega
  rcases Int.mul_eq_zero.1 e.symm with h|h
  ·exact h3 h
  ·omega
 rcases h with⟨h0,h1⟩|⟨i,h1,hi⟩<;>rcases k with⟨k0,k1⟩|⟨j,k1,hj⟩
 ·omega
 ·subst h0;exact absurd hj (hz j)
 ·subst k0;exact absurd hi (hz i)
 ·rw[h1,k1,jS hi hj]
theorem mh (ao:Option Addr) (n cap:Nat) (d:Nat->Int) (w:World) (h:aG w ao n cap d) (hd:aO d n) (hn:n<=100000) :
  Calls prog 103 #[.slice ao n cap] w fun e w'=>∃ l,e=.returned (.int .i64 l)∧jT (val d n) l∧w'=w:=by
 have hl:=h.le
 have hm:=h.max
 go_enter func103,ntmps103
 go_wp2
 go_loop [3] (fun i=>∃ k:Nat,k<=n∧i=.int .i64 k∧Hid (∀ j,j<k->d j=0)) (fun i=>n-(intOf i).toNat)
 case atStart=>exact⟨0,Nat.zero_le _,rfl,fun j hj=>by omega⟩
 case round=>
  obtain⟨k,hk,rfl,HZ⟩:=hrel
  by_cases hlt:k<n
  ·obtain⟨b,off,rfl,hb,hc⟩:=h.spot (by omega)
   have c:=hc k hlt
   have dk:=hd k hlt
   by_cases h0:d k=0
   ·have e0:(d k != 0)=false:=by simp[h0]
    go_wp2
    go_round
    case rel=>exact⟨k+1,by omega,by go_num,fun j hj=>by by_cases e:j=k;(· rw[e];exact h0);(· exact HZ.out j (by omega))⟩
    case measure=>simp[intOf];omega
   ·have e0:(d k != 0)=true:=by simp[h0]
    have hpos:0<d k:=by omega
    go_wp2
    go_loop [4,5] (fun s v=>∃ (x:Int) (t:Nat),s=.int .i64 ((30*k+t:Nat):Int)∧v=.int .i64 x∧0<x∧x<1073741824∧t<=30∧Hid (x*2^t=d k)) (fun _ v=>(intOf v).toNat)
    case atStart=>exact⟨d k,0,by go_num,rfl,hpos,dk.2,by omega,by show _=_;simp⟩
    case round=>
     obtain⟨x,t,rfl,rfl,hx0,hx1,ht,HT⟩:=hrel
     by_cases he:x % 2=0
     ·have ee:(x % 2 == 0)=true:=by simp[he]
      have HT2:Hid (x/2*2^(t+1)=d k):=by
       show _=_
       rw[Int.pow_succ,Int.mul_comm (2^t) 2,<- Int.mul_assoc,show x/2*2=x by omega];exact HT.out
      have ht2:t+1<=30:=by
       have h1:1*2^(t+1)<=x/2*2^(t+1):=Int.mul_le_mul_of_nonneg_right (by omega) (Int.le_of_lt (aF _))
       rw[HT2.out] at h1
       have h2:(2:Int)^(t+1)<2^30:=by have:(2:Int)^30=1073741824:=rfl;omega
       have:=dt h2
       omega
      go_wp2
      go_round
      case rel=>exact⟨x/2,t+1,by go_num,rfl,by omega,by omega,ht2,HT2.out⟩
      case measure=>simp[intOf];omega
     ·have ee:(x % 2 == 0)=false:=by simp[he]
      have HL:Hid (cm (d k) t):=⟨x/2,by rw[show 2*(x/2)+1=x by omega];exact HT.out.symm⟩
      go_wp2
      go_ret
      exact⟨_,rfl,.inr ⟨30*k+t,rfl,nY hlt HZ.out HL.out (ug hpos dk.2 HL.out)⟩,rfl⟩
  ·obtain rfl:k=n:=by omega
   go_wp2
   go_ret
   exact⟨_,rfl,.inl ⟨by rw[cB (Nat.zero_le _) (fun i _ hi=>HZ.out i hi)];rfl,rfl⟩,rfl⟩
theorem ja (ng:Bool) (ao:Option Addr) (n cap:Nat) (d:Nat->Int) (e:Int) (w:World) (h:aG w ao n cap d) (hd:aO d n) (hn:n<=40000) (he0:-4194304<=e) (he1:e<=4194304) :
  Calls prog 80 #[.bool ng,.slice ao n cap,.int .i64 e] w fun r w'=>∃ v,r=.returned v∧aZ w w' (sg ng (val d n)*pw e) v:=by
 by_cases h0:val d n=0
 ·rw[h0,dN,Int.zero_mul]
  go_enter func80,ntmps80
  go_wp2_with fail
  refine(mh _ _ _ _ _ (h.keeps (ae _ _)) hd (by omega)).mono ?_
  rintro r w1 ⟨l,rfl,hl,rfl⟩
  have hl1:l=-1:=by
   rcases hl with⟨_,h1⟩|⟨k,_,m,hm⟩
   ·exact h1
   ·exfalso
    rw[h0] at hm
    rcases Int.mul_eq_zero.1 hm.symm with x|x
    ·omega
    ·have:=aF k;omega
  subst hl1
  go_wp2
  refine bodyPost_ret (v:=de) (by simp[results,results80,go_sem,de]) rfl ⟨_,rfl,?_⟩
  exact aZ.zero (ae _ _)
 ·have hp:0<val d n:=by have:=aJ hd;omega
  go_enter func80,ntmps80
  go_wp2_with fail
  refine(mh _ _ _ _ _ (h.keeps (ae _ _)) hd (by omega)).mono ?_
  rintro r w1 ⟨l,rfl,hl,rfl⟩
  have hl2:∃ k:Nat,l=k∧cm (val d n) k:=by
   rcases hl with⟨h1,_⟩|h1
   ·omega
   ·exact h1
  obtain⟨k,rfl,hk⟩:=hl2
  have hkn:k<30*n:=by
   have h1:=bz hd
   rw[cr] at h1
   obtain⟨a,b,c⟩:=dW hk hp
   have h2:(1:Int)*2^k<=val d n/2^k*2^k:=Int.mul_le_mul_of_nonneg_right (by omega) (Int.le_of_lt (aF k))
   exact dt (by omega)
  have hy:=Dy.of ng hk hp he0
  have HY:Hid (Dy (sg ng (val d n)*pw e) ng (val d n/2^k) (e+k)):=hy
  clear hy hl hk
  go_wp2_with fail
  refine(pN _ _ _ k d _ (h.keeps (ae _ _)) hd (by omega) (by omega)).mono ?_
  rintro r w2 ⟨v,rfl,hA⟩
  obtain⟨so,sn,sc,rfl⟩:=hA.num.shape
  have q0:=(hA.below.block w.heap.size (by rw[fG];omega)).trans (a9 _ _)
  have x0:=ab q0 0 rfl
  have x1:=ab q0 1 rfl
  have x2:=ab q0 2 rfl
  have z0:=ak q0 0
  have z1:=ak q0 1
  have z2:=ak q0 2
  go_wp2
  refine bodyPost_ret (v:=.agg #[.bool ng,.slice so sn sc,.int .i64 (e+k)]) (by simp[results,results80,go_sem,x0,x1,x2]) rfl ⟨_,rfl,?_⟩
  exact⟨_,_,_,_,rfl,HY.out,lC (g:=w.heap.size) hA (ae _ _) (Nat.le_refl _) (by rw[fG];omega) _ _ _⟩
def Bd (B:Nat) (V:Int):Prop:=∃ m:Int,V=m*pw (-(B:Int))∧-(2^(2*B))<m∧m<2^(2*B)
theorem Bd.ok {B:Nat} {V:Int} (h:Bd B V) (hB:B<=29000):b7 V:=by
 obtain⟨m,rfl,h1,h2⟩:=h
 by_cases h0:m=0
 ·rw[h0,Int.zero_mul];exact l5
 ·have aj:∀ (ng:Bool) (M:Int),0<M->M<2^(2*B)->b7 (sg ng M*pw (-(B:Int))):=fun ng M hM hlt=>by
   obtain⟨l,hl⟩:=gF hM
   have hy:=Dy.of ng hl hM (show -4194304 <= -(B:Int) by omega)
   obtain⟨c1,c2,c3⟩:=dW hl hM
   have hl2:l<2*B:=by
    have h3:(1:Int)*2^l<=M/2^l*2^l:=Int.mul_le_mul_of_nonneg_right (by omega) (Int.le_of_lt (aF l))
    rw[c3] at h3
    exact dt (by omega)
   refine hy.ok.2 ⟨?_,by omega,by omega⟩
   have h4:M/2^l<=M:=Int.ediv_le_self _ (by omega)
   have h5:(2:Int)^(2*B)<=2^(30*2000):=cc (by omega)
   rw[cr]
   omega
  by_cases hp:0<m
  ·exact aj false m hp h2
  ·have:=aj true (-m) (by omega) (by omega)
   rwa [show sg true (-m)=m by simp[sg]] at this
theorem Bd.up {B C:Nat} {V:Int} (h:Bd B V) (hBC:B<=C) (hC:C<=4194304):Bd C V:=by
 obtain⟨m,rfl,h1,h2⟩:=h
 have hp:=aF (C-B)
 have e:pw (-(B:Int))=pw (-(C:Int))*2^(C-B):=by
  rw[<- dM (by omega)];congr 1;omega
 have hle:(2:Int)^(2*B)*2^(C-B)<=2^(2*C):=by rw[<- Int.pow_add];exact cc (by omega)
 refine⟨m*2^(C-B),by rw[e];grind,?_,?_⟩
 ·have:-(2^(2*B))*2^(C-B)<m*2^(C-B):=Int.mul_lt_mul_of_pos_right h1 hp
  rw[Int.neg_mul] at this
  omega
 ·have:=Int.mul_lt_mul_of_pos_right h2 hp
  omega
theorem Bd.add {B:Nat} {V W:Int} (h:Bd B V) (k:Bd B W) (hB:B<4194304):Bd (B+1) (V+W):=by
 obtain⟨m,rfl,h1,h2⟩:=h
 obtain⟨n,rfl,k1,k2⟩:=k
 have e:pw (-(B:Int))=pw (-((B+1:Nat):Int))*2:=by
  have:=dM (e:=-((B+1:Nat):Int)) (by omega) 1
  rw[Int.pow_succ,Int.pow_zero,Int.one_mul] at this
  rw[<- this];congr 1;omega
 have e2:(2:Int)^(2*(B+1))=2^(2*B)*4:=by rw[show 2*(B+1)=2*B+2 by omega,Int.pow_add];rfl
 refine⟨2*(m+n),by rw[e];grind,?_,?_⟩<;>rw[e2]<;>omega
theorem Bd.neg {B:Nat} {V:Int} (h:Bd B V):Bd B (-V):=by
 obtain⟨m,rfl,h1,h2⟩:=h
 exact⟨-m,by rw[Int.neg_mul],by omega,by omega⟩
theorem Bd.mul {B:Nat} {V W U:Int} (h:Bd B V) (k:Bd B W) (hU:U*2^4194304=V*W) (hB:B<=1000000):Bd (2*B) U:=by
 obtain⟨m,rfl,h1,h2⟩:=h
 obtain⟨n,rfl,k1,k2⟩:=k
 have e:U=m*n*pw (-((2*B:Nat):Int)):=by
  refine kL ?_
  rw[hU,Int.mul_assoc (m*n),show -((2*B:Nat):Int)=-(B:Int) + -(B:Int) by omega,<- kK (by omega) (by omega)];grind
 refine⟨m*n,e,?_,?_⟩
 all_goals
  have hab:(m*n).natAbs<((2:Int)^(2*(2*B))).natAbs:=by
   rw[Int.natAbs_mul,show 2*(2*B)=2*B+2*B by omega,Int.pow_add,Int.natAbs_mul]
   exact Nat.mul_lt_mul'' (by have:=aF (2*B);omega) (by have:=aF (2*B);omega)
  have:=aF (2*(2*B))
  omega
theorem Ar {ng:Bool} {M e:Int} (h0:0<=M) (h1:M<P 30) (e0:-3000<e) (e1:e<3000):Bd 4000 (sg ng M*pw e):=by
 have hs:pw e=pw (-((4000:Nat):Int))*2^(e+4000).toNat:=by
  rw[<- dM (by omega)];congr 1;omega
 have hp:=aF (e+4000).toNat
 have hlt:M*2^(e+4000).toNat<2^(2*4000):=by
  have a:M*2^(e+4000).toNat<P 30*2^(e+4000).toNat:=Int.mul_lt_mul_of_pos_right h1 hp
  rw[cr,<- Int.pow_add] at a
  have b:(2:Int)^(30*30+(e+4000).toNat)<=2^(2*4000):=cc (by omega)
  omega
 have hn:0<=M*2^(e+4000).toNat:=Int.mul_nonneg h0 (Int.le_of_lt hp)
 refine⟨sg ng (M*2^(e+4000).toNat),by rw[hs,gV,gV];grind,?_,?_⟩
 all_goals
  generalize M*2^(e+4000).toNat=X at *
  generalize (2:Int)^(2*4000)=T at *
  cases ng<;>simp only[sg]<;>simp<;>omega
end Go.Proofs.YtkkpppgfoilgmaaGreatDoor
namespace Go.Proofs.YtkkpppgfoilgmaaGreatDoor
open Go Go.Proofs.Tryz Go.ChangeShapes Go.WideShapes Go.ChangeAt Go.RowKit Go.Proofs.YtkkpppgfoilgmaaGreatDoor.M
theorem jA {x:Int} (h:(Lit.int .i64 x).wf=true):au x:=by
 simp[Lit.wf,IntKind.min,IntKind.max,IntKind.signed,IntKind.bits] at h
 unfold au;omega
theorem At {H:Type} {enc:TypeId × Value->H} {W:World} {a:Option Addr} {len cap:Nat} {d:DataW H} {p:List MemPlace}
  (h0:DataW.Trod enc prog W 0 (fun _=>true) true 24 (.slice a len cap) d p):∃ z:Nat->Int,aG W a len cap z∧∀ i,i<len->au (z i):=by
 obtain⟨fuel,hf⟩:=h0
 rcases open_ints underlying24 underlying3 (by kernel_rfl) hf with⟨hcs,_⟩|⟨x,l,c,zs,hcs,_,hl,hm,hz,_,hcell,hwz⟩
 ·simp[Value.cells] at hcs
  obtain⟨rfl,rfl,rfl⟩:=hcs
  exact⟨fun _=>0,aG.nil _ _,fun i hi=>by omega⟩
 ·simp[Value.cells] at hcs
  obtain⟨rfl,rfl,rfl⟩:=hcs
  have hz':zs.length=cap:=by simpa using hz
  refine⟨fun i=>zs.getD i 0,⟨hl,by unfold maxLen at hm;exact hm,(fun e=>by cases e),fun hn=>?_⟩,fun i hi=>?_⟩
  ·obtain⟨b,off,spot⟩:=x
   have hc:=hcell 0 (by omega)
   have hspot:spot=none:=by simpa [Addr.add] using World.cell?_spot hc
   subst hspot
   refine⟨b,off,rfl,World.block_lt_of_cell? W _ (by simpa [Addr.add] using hc),fun i hi=>?_⟩
   rw[<- l7];exact hcell i (by omega)
  ·refine jA (hwz _ ?_)
   simp[List.getD,show i<zs.length by omega]
end Go.Proofs.YtkkpppgfoilgmaaGreatDoor
namespace Go.Proofs.YtkkpppgfoilgmaaGreatDoor
open Go Go.Proofs.Tryz Go.RowKit Go.ChangeShapes Go.Proofs.YtkkpppgfoilgmaaGreatDoor.M
theorem Au : Tryz.prog.globalNamed "math/bits.deBruijn64tab" = some 2 := by kernel_rfl
theorem wk:(prog.globals[(2:Nat)]?).map (·.type)=some 171:=by kernel_rfl
theorem wm:prog.cellsOf 171=64:=by kernel_rfl
theorem ut:prog.cellsOf 5=1:=by kernel_rfl
def rP:List Int:=Lib.deBruijn64tab.map Int.ofNat
theorem yv:∀ j,j<64->rP.getD j 0=((Lib.deBruijn64tab.getD j 0:Nat):Int):=by decide +kernel
theorem wn:prog.cellsOf 3=1:=by kernel_rfl
theorem qW:prog.cellsOf 95=3:=by kernel_rfl
theorem DD : Tryz.prog.globalNamed "plumb/bits.binary64" = some 0 := by kernel_rfl
theorem yw:(prog.globals[(0:Nat)]?).map (·.type)=some 95:=by kernel_rfl
theorem jb {W:World} {name:String} {g:Nat} {a b c:Int} {rest:List (String × DataW Unit)} (hg:prog.globalNamed name=some g) (hty:(prog.globals[g]?).map (·.type)=some 95)
  (h:laidMet prog ((name,.agg [.lit (.int .i64 a),.lit (.int .i64 b),.lit (.int .i64 c)]) :: rest) W) :
  W.cell? ⟨g,0,none⟩=some (.int .i64 a)∧W.cell? ⟨g,1,none⟩=some (.int .i64 b)∧W.cell? ⟨g,2,none⟩=some (.int .i64 c):=by
 obtain⟨ps,⟨g',t',cs,fuel,p,q,hg',ht',hvar,hd,_,_⟩,_⟩:=h
 obtain rfl:=Option.some.inj (hg.symm.trans hg')
 obtain rfl:=Option.some.inj (hty.symm.trans ht')
 obtain⟨y0,y1,y2,n,hx,hl,h0,h1,h2⟩:=Go.Deep.trod_struct3 underlying95 hd
 obtain⟨k0,e0,f0,_⟩:=DataW.trod_int underlying3 h0
 obtain⟨k1,e1,f1,_⟩:=DataW.trod_int underlying3 h1
 obtain⟨k2,e2,f2,_⟩:=DataW.trod_int underlying3 h2
 rw[f0,f1,f2] at hx
 simp only[Prod.mk.injEq,DataW.agg.injEq,List.cons.injEq,DataW.lit.injEq,Lit.int.injEq,true_and,and_true] at hx
 obtain⟨⟨rfl,rfl,rfl⟩,_⟩:=hx
 rw[qW] at hl
 rw[wn] at e0 e1 e2
 have v:=fun i=>World.var?_cell hg hvar i
 obtain⟨l⟩:=cs
 simp only at hl e0 e1 e2
 match l,hl with
 | [c0,c1,c2],_=>
  simp at e0 e1 e2
  subst e0 e1 e2
  exact⟨by simpa using v 0,by simpa using v 1,by simpa using v 2⟩
end Go.Proofs.YtkkpppgfoilgmaaGreatDoor
namespace Go.Proofs.YtkkpppgfoilgmaaGreatDoor
open Go Go.Proofs.Tryz Go.ChangeShapes Go.WideShapes Go.ChangeAt Go.RowKit Go.Proofs.YtkkpppgfoilgmaaGreatDoor.M
theorem wo:prog.cellsOf 26=3:=by kernel_rfl
theorem yx:prog.cellsOf 4=1:=by kernel_rfl
theorem yB:prog.cellsOf 24=1:=by kernel_rfl
theorem yC:prog.cellsOf 3=1:=by kernel_rfl
theorem uu {H:Type} {enc:TypeId × Value->H} {W:World} {n:Nat} {cs:List Value} {x:DataW H × List MemPlace}
  (h:DataW.trod enc prog W 0 (fun _=>true) true n 26 cs=some x) :
  ∃ r:aE,cs=[.bool r.ng,.slice r.ao r.n r.cap,.int .i64 r.e]∧aG W r.ao r.n r.cap r.d∧au r.e:=by
 obtain⟨xs,m,_,rfl,hl,hlen,hf⟩:=DataW.trod_struct underlying26 h
 rw[wo] at hl
 match cs,hl with
 | [v0,v1,v2],_=>
  match xs,hlen with
  | [y0,y1,y2],_=>
   have f0:DataW.trod enc prog W 0 (fun _=>true) true m 4 (([v0,v1,v2].drop 0).take (prog.cellsOf 4))=some y0:=hf 0 _ rfl
   have f1:DataW.trod enc prog W 0 (fun _=>true) true m 24 (([v0,v1,v2].drop 1).take (prog.cellsOf 24))=some y1:=hf 1 _ rfl
   have f2:DataW.trod enc prog W 0 (fun _=>true) true m 3 (([v0,v1,v2].drop 2).take (prog.cellsOf 3))=some y2:=hf 2 _ rfl
   rw[yx] at f0
   rw[yB] at f1
   rw[yC] at f2
   simp only[List.drop_zero,List.drop_succ_cons,List.take_succ_cons,List.take_zero] at f0 f1 f2
   obtain⟨k0,e0,_,w0⟩:=DataW.trod_bool underlying4 f0
   obtain⟨k2,e2,_,w2⟩:=DataW.trod_int underlying3 f2
   simp at e0 e2
   subst e0 e2
   rcases open_ints underlying24 underlying3 (by kernel_rfl) f1 with⟨hcs,_⟩|⟨p,l,c,zs,hcs,_,hl',hm',hz,hx,hcell,hwz⟩
   ·simp at hcs
    subst hcs
    exact⟨⟨k0,none,0,0,fun _=>0,k2⟩,rfl,aG.nil _ _,jA w2⟩
   ·simp at hcs
    subst hcs
    obtain⟨z,hR,_⟩:=At (enc:=enc) (W:=W) (a:=some p) (len:=l) (cap:=c) (d:=y1.1) (p:=y1.2) ⟨m,by simpa [Value.cells] using f1⟩
    exact⟨⟨k0,some p,l,c,z,k2⟩,rfl,hR,jA w2⟩
theorem Av {H:Type} {enc:TypeId × Value->H} {W:World} {base:Nat} {v:Value} {d:DataW H} {p:List MemPlace} (hv:Value.okWide prog W .any base 26 v)
  (h:DataW.Trod enc prog W 0 (fun _=>true) true 26 v d p):∃ x:aE,v=x.v∧aG W x.ao x.n x.cap x.d∧au x.e:=by
 obtain⟨cs,rfl,hc⟩:=okWide_struct underlying26 hv
 obtain⟨fuel,hf⟩:=h
 obtain⟨r,hr,h1,h2⟩:=uu hf
 refine⟨r,?_,h1,h2⟩
 show Value.agg cs=.agg #[.bool r.ng,.slice r.ao r.n r.cap,.int .i64 r.e]
 congr 1
 have:cs.toList=[.bool r.ng,.slice r.ao r.n r.cap,.int .i64 r.e]:=by simpa [Value.cells] using hr
 exact Array.toList_inj.1 this
structure tk (w:World):Prop where
 lay:jX w
 tab:eF w
theorem tk.keeps {w w':World} (h:tk w) (hb:Below w.heap.size w w'):tk w':=⟨h.lay.keeps hb,h.tab.keeps hb⟩
theorem yD {W : World} (h : laidMetH Tryz.prog [("math/bits.deBruijn32tab", Rows.laid_math_bits_deBruijn32tab), ("math/bits.deBruijn64tab", Rows.laid_math_bits_deBruijn64tab), ("plumb/bits.binary64", Rows.laid_plumb_bits_binary64)] W) : tk W := by
 rw[MakeChecks.laidMetH_plain _ _ _ (by kernel_rfl)] at h
 have h' : laidMet Tryz.prog (("math/bits.deBruijn64tab", Lib.tabData .u8 rP) :: [("plumb/bits.binary64", Rows.laid_plumb_bits_binary64)]) W := h.tail
 have t:=Lib.tabIs_of_head Au wk underlying171 underlying5 ut wm h'
 obtain⟨a0,a1,a2⟩:=jb DD yw h'.tail
 refine⟨⟨a0,a1,a2⟩,fun j hj=>?_⟩
 rw[<- yv j hj]
 exact t.cell Au j (by exact hj)
end Go.Proofs.YtkkpppgfoilgmaaGreatDoor
namespace Go.Proofs.YtkkpppgfoilgmaaGreatDoor
open Go Go.Proofs.Tryz Go.RowKit Go.Proofs.YtkkpppgfoilgmaaGreatDoor.M
theorem mF {w w':World} {V:Int} {v:Value} (h:aZ w w' V v):∃ ng so sn sc e,v=.agg #[.bool ng,.slice so sn sc,.int .i64 e]:=by
 obtain⟨ng,s,m,e,h1,_,hA⟩:=h
 obtain⟨so,sn,sc,rfl⟩:=hA.num.shape
 exact⟨_,_,_,_,_,h1⟩
theorem rQ (a b:Int):bq (a-b) 0=bq a b:=by
 rcases Int.lt_trichotomy a b with h|h|h
 ·rw[cF h,cF (by omega)]
 ·rw[eE h,eE (by omega)]
 ·rw[cG h,cG (by omega)]
def aM (b:Int):Int:=sg (cl b) (bl b)*pw (bJ b)
def eX (A b:Int):Int:=if aB b=true then bq A (aM b) else if b<0 then 1 else -1
theorem pO {b:Int} (h:aB b=true):b7 (aM b):=by
 obtain⟨i0,i1,i2,i3⟩:=gH h
 exact n8 i0 (by omega) i2 i3
end Go.Proofs.YtkkpppgfoilgmaaGreatDoor
