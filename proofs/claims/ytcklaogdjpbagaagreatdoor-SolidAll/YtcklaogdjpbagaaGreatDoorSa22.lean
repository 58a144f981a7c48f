/- Parts of the proof. -/
import Derived.Test.YtcklaogdjpbagaaGreatDoorSa14
import Derived.Test.YtcklaogdjpbagaaGreatDoorSa15
import Derived.Test.YtcklaogdjpbagaaGreatDoorSa16
import Derived.Test.YtcklaogdjpbagaaGreatDoorSa17
import Derived.Test.YtcklaogdjpbagaaGreatDoorSa18
import Derived.Test.YtcklaogdjpbagaaGreatDoorSa19
import Derived.Test.YtcklaogdjpbagaaGreatDoorSa20
import Derived.Test.YtcklaogdjpbagaaGreatDoorSa21
import Derived.Test.YtcklaogdjpbagaaGreatDoorSa2
import Derived.Test.YtcklaogdjpbagaaGreatDoorSa4
import Derived.Test.YtcklaogdjpbagaaGreatDoorSa13
import Derived.Test.YtcklaogdjpbagaaGreatDoorSa7
import Derived.Test.YtcklaogdjpbagaaGreatDoorSa5
import Derived.Test.YtcklaogdjpbagaaGreatDoorSa6
set_option maxRecDepth 100000
set_option maxHeartbeats 8000000
set_option linter.unusedVariables false
set_option linter.unusedSimpArgs false
namespace Go.Proofs.YtcklaogdjpbagaaGreatDoor
open Go Go.Proofs.Tryz Go.RowKit Go.Proofs.YtcklaogdjpbagaaGreatDoor.M
theorem yN (way:Int) (hw:0<=way∧way<=3) (ng:Bool) (ao:Option Addr) (n cap:Nat) (d:Nat->Int) (exp:Int) (more:Bool) (w:World) (h:aS w ao n cap d) (nb:Nat) (E lw:Int) (K:Nat) (hf rs:Bool) (l:Int) (F:jN ao n cap d exp more nb E lw K hf rs l) :
  Calls prog 132 #[cl,.bool ng,.slice ao n cap,.int .i64 exp,.bool more,.int .i64 way] w fun e w'=>e=.returned (.tuple #[.int .i64 (bh way ng hf rs K E).1,.bool (bh way ng hf rs K E).2])∧Below w.heap.size w w':=by
 have h4:way=0∨way=1∨way=2∨way=3:=by omega
 rcases h4 with rfl|rfl|rfl|rfl<;>cases ng
 ·exact BI ao n cap d exp more w h nb E lw K hf rs l F
 ·exact BJ ao n cap d exp more w h nb E lw K hf rs l F
 ·exact BK ao n cap d exp more w h nb E lw K hf rs l F
 ·exact BL ao n cap d exp more w h nb E lw K hf rs l F
 ·exact BM ao n cap d exp more w h nb E lw K hf rs l F
 ·exact BN ao n cap d exp more w h nb E lw K hf rs l F
 ·exact BO ao n cap d exp more w h nb E lw K hf rs l F
 ·exact BP ao n cap d exp more w h nb E lw K hf rs l F
theorem AL (ao:Option Addr) (n cap:Nat) (d:Nat->Int) (exp:Int) (more:Bool) (hd:cf d n) (hn:n<=10000) (h0:0<n) (he:-1300000<=exp∧exp<=1300000) (hc:more=true->0<cE 53 (-1074) (val d n).toNat exp-exp) :
  ∃ nb l,jN ao n cap d exp more nb (cE 53 (-1074) (val d n).toNat exp) (cE 53 (-1074) (val d n).toNat exp-exp) (rU (val d n).toNat (cE 53 (-1074) (val d n).toNat exp-exp)) (cH (val d n).toNat (cE 53 (-1074) (val d n).toNat exp-exp)) (cR (val d n).toNat more (cE 53 (-1074) (val d n).toNat exp-exp)) l:=by
 have hV:=bz hd.1
 have hpos:0<val d n:=by
  have h1:=eR hd.1 h0 hd.2
  have:=cA (n-1)
  omega
 obtain⟨M,hM⟩:∃ M:Nat,val d n=M:=⟨(val d n).toNat,by omega⟩
 have hM0:M≠0:=by omega
 have hMt:(val d n).toNat=M:=by omega
 rw[hMt] at hc ⊢
 obtain⟨b0,b1,b2⟩:=kL hM0
 have hbl:aG (M:Int)<=300000:=by
  refine Nat.le_trans (df (k:=30*n) ?_) (by omega)
  rw[<- dG,<- hM]
  exact cV hd.1
 have hU:=(tW (sz:=53) (lowE:=-1074) (exp:=exp) (by decide) hM0).1
 rw[show(2:Nat)^(53:Int).toNat=9007199254740992 by decide] at hU
 have hE:cE 53 (-1074) M exp=max ((aG (M:Int):Int)+exp-53) (-1074):=rfl
 obtain⟨l,hl⟩:∃ l,mC (M:Int) l:=by
  obtain⟨k,hk⟩:=gV (M:=(M:Int)) (by omega)
  exact⟨k,.inr ⟨k,rfl,hk⟩⟩
 have hl0:0<=l∧l<=300000:=by
  rcases hl with⟨h,_⟩|⟨k,rfl,m,hk⟩
  ·omega
  ·refine⟨by omega,?_⟩
   have hm:0<=m:=by
    rcases Int.lt_or_le m 0 with q|q
    ·have:=Int.mul_neg_of_neg_of_pos (show 2*m+1<0 by omega) (aJ k)
     omega
    ·exact q
   have h1:(2:Int)^k<=M:=by
    rw[hk]
    have:=Int.mul_le_mul_of_nonneg_right (show 1<=2*m+1 by omega) (Int.le_of_lt (aJ k))
    omega
   have:=oh h1
   omega
 refine⟨aG (M:Int),l,⟨by omega,he,by omega,by omega,rfl,hU,by omega,?_,?_,?_,?_,?_,?_,?_,?_,?_,?_,?_⟩⟩
 ·intro h
  exact⟨by unfold cR;rw[h];rfl,hc h⟩
 ·intro h h1
  unfold cR
  rw[h,decide_eq_false (by omega)]
  rfl
 ·intro h h1
  unfold cR
  obtain⟨s,hs⟩:∃ s:Nat,cE 53 (-1074) M exp-exp-1=s:=⟨(cE 53 (-1074) M exp-exp-1).toNat,by omega⟩
  rw[h,decide_eq_true h1,hs,Int.toNat_natCast,Bool.false_or,Bool.true_and]
  have:=yK (s:=s) hl hM0
  by_cases q:l<s
  ·rw[decide_eq_true q,decide_eq_true (this.1 ⟨hl0.1,q⟩)]
  ·rw[decide_eq_false q,decide_eq_false (fun q2=>q (this.2 q2).2)]
 ·intro ts t w
  rw[run_max_int2,hE]
  congr 2
  omega
 ·intro ts t w
  rw[run_max_int2]
  congr 2
  omega
 ·intro W hR
  have:=vQ ao n cap d W hR hd (by omega)
  rwa [hM] at this
 ·intro W hR
  obtain⟨k,hk⟩:∃ k:Nat,max (cE 53 (-1074) M exp-exp) 0=k:=⟨(max (cE 53 (-1074) M exp-exp) 0).toNat,by omega⟩
  rw[hk]
  refine(qJ ao n cap k d W hR hd.1 (by omega) (by omega)).mono ?_
  rintro e w' ⟨v,rfl,hA⟩
  obtain⟨so,sn,sc,rfl⟩:=hA.num.shape
  refine⟨so,sn,sc,rfl,hA.below,fun h=>?_⟩
  have h2:=hA.num
  rw[hM] at h2
  have h3:((M:Int)/2^k)=((rU M (cE 53 (-1074) M exp-exp):Nat):Int):=by
   unfold rU
   by_cases q:cE 53 (-1074) M exp-exp<=0
   ·rw[if_pos q,show k=0 by omega,show(-(cE 53 (-1074) M exp-exp)).toNat=0 by omega]
    simp
   ·rw[if_neg q,show(cE 53 (-1074) M exp-exp).toNat=k by omega]
    simp
  rwa [h3] at h2
 ·intro h W hR
  obtain⟨k,hk⟩:∃ k:Nat,-(cE 53 (-1074) M exp-exp)=k:=⟨(-(cE 53 (-1074) M exp-exp)).toNat,by omega⟩
  rw[hk]
  refine(mE ao n cap k d W hR hd.1 (by omega) (by omega)).mono ?_
  rintro e w' ⟨v,rfl,hA⟩
  obtain⟨so,sn,sc,rfl⟩:=hA.num.shape
  refine⟨so,sn,sc,rfl,hA.below,?_⟩
  have h2:=hA.num
  rw[hM] at h2
  have h3:((M:Int)*2^k)=((rU M (cE 53 (-1074) M exp-exp):Nat):Int):=by
   unfold rU
   rw[if_pos (by omega),hk,Int.toNat_natCast]
   simp
  rwa [h3] at h2
 ·intro W hR
  by_cases q:0<cE 53 (-1074) M exp-exp
  ·obtain⟨s,hs⟩:∃ s:Nat,cE 53 (-1074) M exp-exp-1=s:=⟨(cE 53 (-1074) M exp-exp-1).toNat,by omega⟩
   have:=xK ao n cap d W hR hd (by omega) s (by omega)
   rw[hM] at this
   unfold cH
   rw[decide_eq_true q,hs,Int.toNat_natCast,Bool.true_and]
   exact this
  ·unfold cH
   rw[decide_eq_false q,Bool.false_and]
   exact yM ao n cap _ W (by omega) (by omega)
 ·intro W hR
  refine(mF ao n cap d W hR hd.1 (by omega)).mono ?_
  rintro e w' ⟨l',rfl,h1,h2⟩
  rw[hM] at h1
  rw[sM h1 hl]
  exact⟨rfl,h2⟩
 ·intro U u0 u1
  refine⟨_,rfl,?_,fun W=>sU U _ W (by unfold ax;omega) (by unfold ax;omega)⟩
  have:=BZ (mag:=U) (exp:=cE 53 (-1074) M exp) (by unfold ax;omega)
  unfold jp
  simp only[Bool.and_false,Bool.false_eq_true,if_false]
  exact this
def pG (way:Int) (ng:Bool) (A:Int) (p:Int):Prop:=∃ r0 left,ei A r0 left∧p=aP ng (bT way ng r0 left)
theorem pG.unique {way:Int} {ng:Bool} {A p q:Int} (h:pG way ng A p) (k:pG way ng A q):p=q:=by
 obtain⟨r0,l,h1,rfl⟩:=h
 obtain⟨s0,m,k1,rfl⟩:=k
 obtain⟨e1,e2⟩:=h1.unique k1
 rw[e1,e2]
theorem AM (way:Int) (hw:0<=way∧way<=3) (ng:Bool) {M:Nat} {exp:Int} {more:Bool} (hc:more=true->0<cE 53 (-1074) M exp-exp) :
  bh way ng (cH M (cE 53 (-1074) M exp-exp)) (cR M more (cE 53 (-1074) M exp-exp)) (rU M (cE 53 (-1074) M exp-exp)) (cE 53 (-1074) M exp) =
   (if cO 53 (-1074) 1024 way ng M exp more then cS (-9223372036854775808) ng+(if cI way ng true 3 then 9218868437227405312 else 9218868437227405311) else cS (-9223372036854775808) ng+jp false (cU 53 (-1074) way ng M exp more) (cE 53 (-1074) M exp),cO 53 (-1074) 1024 way ng M exp more||(decide (rL M more (cE 53 (-1074) M exp-exp)≠0))):=by
 have hL:=yJ (M:=M) hc
 unfold cO cU bh
 rw[hL]
 generalize cE 53 (-1074) M exp=E at *
 generalize rU M (E-exp)=K at *
 generalize cH M (E-exp)=hf at *
 generalize cR M more (E-exp)=rs at *
 have hA:bm way ng hf rs K=cI way ng (decide (K % 2=1)) (if hf then (if rs then 3 else 2) else (if rs then 1 else 0)):=by
  unfold bm cI
  have h4:way=0∨way=1∨way=2∨way=3:=by omega
  rcases h4 with rfl|rfl|rfl|rfl<;>cases ng<;>cases hf<;>cases rs<;>simp
 have hB:(way=0∨(way=2∧ng=false)∨(way=1∧ng=true))↔cI way ng true 3=true:=by
  unfold cI
  have h4:way=0∨way=1∨way=2∨way=3:=by omega
  rcases h4 with rfl|rfl|rfl|rfl<;>cases ng<;>simp
 simp only
 rw[hA]
 generalize cI way ng (decide (K % 2=1)) (if hf then (if rs then 3 else 2) else (if rs then 1 else 0))=R
 have e52:(2:Nat)^((53:Int).toNat-1)=4503599627370496:=by decide
 rw[e52]
 generalize K+(if R=true then 1 else 0)=U
 have hodd:(decide ((if hf then (if rs then (3:Int) else 2) else (if rs then 1 else 0))≠0))=(hf||rs):=by cases hf<;>cases rs<;>rfl
 rw[hodd]
 unfold cS
 by_cases c:4503599627370496<=U∧1024<(aG (U:Int):Int)+E
 ·rw[if_pos c,decide_eq_true c.1,decide_eq_true c.2,Bool.and_self,if_pos rfl,Bool.true_or]
  congr 2
  by_cases q:cI way ng true 3=true
  ·rw[if_pos (hB.2 q),if_pos q]
  ·rw[if_neg (fun q2=>q (hB.1 q2)),if_neg q]
 ·rw[if_neg c]
  have:(decide (4503599627370496<=U)&&decide (1024<(aG (U:Int):Int)+E))=false:=by
   by_cases c1:4503599627370496<=U
   ·rw[decide_eq_false (p:=1024<_) (fun c2=>c ⟨c1,c2⟩),Bool.and_false]
   ·rw[decide_eq_false c1,Bool.false_and]
  rw[this]
  simp only[Bool.false_eq_true,if_false,Bool.false_or]
theorem wX (way:Int) (hw:0<=way∧way<=3) (ng:Bool) (ao:Option Addr) (n cap:Nat) (d:Nat->Int) (exp:Int) (more:Bool) (w:World) (h:aS w ao n cap d) (hd:cf d n) (hn:n<=10000) (h0:0<n) (he:-1300000<=exp∧exp<=1300000) {A:Int} (hA:ld A (val d n).toNat exp more) (hc:more=true->2^60<=(val d n).toNat) :
  Calls prog 132 #[cl,.bool ng,.slice ao n cap,.int .i64 exp,.bool more,.int .i64 way] w fun e w'=>∃ p o r0 left,e=.returned (.tuple #[.int .i64 p,.bool o])∧Below w.heap.size w w'∧ei A r0 left∧p=aP ng (bT way ng r0 left)∧o=(decide (left≠0)||decide (9218868437227405312<=(r0:Int))):=by
 have hpos:0<val d n:=by
  have h1:=eR hd.1 h0 hd.2
  have:=cA (n-1)
  omega
 have hM0:(val d n).toNat≠0:=by omega
 have hc2:more=true->0<cE 53 (-1074) (val d n).toNat exp-exp:=fun q=>by
  have h1:=hc q
  obtain⟨b0,b1,b2⟩:=kL hM0
  have h2:60<aG (((val d n).toNat:Nat):Int):=(Nat.pow_lt_pow_iff_right (by decide:1<2)).1 (Nat.lt_of_le_of_lt h1 b2)
  unfold cE
  omega
 obtain⟨nb,l,F⟩:=AL ao n cap d exp more hd hn h0 he hc2
 refine(yN way hw ng ao n cap d exp more w h nb _ _ _ _ _ l F).mono ?_
 rintro e w' ⟨rfl,hb⟩
 obtain⟨r0,left,s1,s2,s3⟩:=yL (way:=way) (ng:=ng) hA hM0 (by omega) hc
 have hT:=AM way hw ng (M:=(val d n).toNat) (exp:=exp) hc2
 rw[s2,s3] at hT
 rw[hT]
 exact⟨_,_,r0,left,rfl,hb,s1,rfl,rfl⟩
theorem zF (way:Int) (hw:0<=way∧way<=3) {g:Bool} {so:Option Addr} {sn sc:Nat} {e S:Int} {w:World} (h:aM w (.agg #[.bool g,.slice so sn sc,.int .i64 e]) S) (ok:cY S) (h0:S≠0) :
  Calls prog 132 #[cl,.bool g,.slice so sn sc,.int .i64 e,.bool false,.int .i64 way] w fun x w'=>∃ p o,x=.returned (.tuple #[.int .i64 p,.bool o])∧Below w.heap.size w w'∧pG way (decide (S<0)) S.natAbs p:=by
 obtain⟨ng,s,m,e',h1,hy,ao,n,cap,d,h2,hR,hN,hv⟩:=h
 simp only[Value.agg.injEq,Array.mk.injEq,List.cons.injEq,Value.bool.injEq,Value.int.injEq,true_and,and_true] at h1
 obtain⟨rfl,rfl,rfl⟩:=h1
 simp only[Value.slice.injEq] at h2
 obtain⟨rfl,rfl,rfl⟩:=h2
 obtain⟨k1,k2,k3⟩:=hy.ok.1 ok
 have hm0:m≠0:=fun q=>h0 (hy.eq_zero.2 q)
 have hmp:0<m:=by have:=hy.nonneg;omega
 have hsn:sn<=2000:=by
  have hNN:cr w (.slice so sn sc) m:=⟨_,_,_,_,rfl,hR,hN,hv⟩
  exact hNN.len k1
 have hs0:0<sn:=by
  rcases Nat.eq_zero_or_pos sn with q|q
  ·subst q
   exact absurd (hv.symm.trans rfl) hm0
  ·exact q
 have hng:g=decide (S<0):=by
  have:=hy.neg_iff
  cases g
  ·symm;exact decide_eq_false (fun q=>by simpa using this.2 q)
  ·symm;exact decide_eq_true (this.1 rfl)
 have hA:ld (S.natAbs:Int) (val d sn).toNat e false:=by
  have e1:(((val d sn).toNat:Nat):Int)=m:=by omega
  have e2:=AU hy
  unfold ld
  rw[e1,e2,Int.add_mul,Int.one_mul,e2]
  have:=ct e
  refine⟨Int.le_refl _,by omega,by simp⟩
 refine(wX way hw g so sn sc d e false w hR hN (by omega) hs0 (by omega) hA (fun q=>by cases q)).mono ?_
 rintro x w' ⟨p,o,r0,left,rfl,hb,h4,h5,h6⟩
 exact⟨p,o,rfl,hb,r0,left,h4,by rw[<- hng];exact h5⟩
def zG (way:Int) (pn qn:Bool) (Vp Vq:Int) (r:Int):Prop :=
 (Vp+Vq=0->r=aP (if Vp=0∧pn=qn then pn else decide (way=1)) 0)∧(Vp+Vq≠0->pG way (decide (Vp+Vq<0)) (Vp+Vq).natAbs r)
theorem gE {w:World} {g:Bool} {so:Option Addr} {sn sc:Nat} {e S:Int} (h:aM w (.agg #[.bool g,.slice so sn sc,.int .i64 e]) S):(sn=0↔S=0)∧sn<=9223372036854775807:=by
 obtain⟨ng,s,m,e',h1,hy,ao,n,cap,d,h2,hR,hN,hv⟩:=h
 simp only[Value.agg.injEq,Array.mk.injEq,List.cons.injEq,Value.bool.injEq,Value.int.injEq,true_and,and_true] at h1
 obtain⟨rfl,rfl,rfl⟩:=h1
 simp only[Value.slice.injEq] at h2
 obtain⟨rfl,rfl,rfl⟩:=h2
 have hm:=hR.max
 have hl:=hR.le
 refine⟨?_,by omega⟩
 rw[hy.eq_zero]
 constructor
 ·intro q
  subst q
  exact hv.symm.trans rfl
 ·intro q
  rcases Nat.eq_zero_or_pos sn with z|z
  ·exact z
  ·have h1:=eR hN.1 z hN.2
   have:=cA (sn-1)
   omega
theorem jL.both {w w':World} {A B:Int} {x y v:Value} (h:jL w w' A B x y v) (hx:aM w x A) (hy:aM w y B):aM w' v (A+B)∧Below w.heap.size w w':=by
 obtain⟨hb,h|⟨h1,h2⟩|⟨h1,h2⟩⟩:=h
 ·exact⟨h.num,hb⟩
 ·subst h2;rw[h1,Int.zero_add];exact⟨hy.keeps hb,hb⟩
 ·subst h2;rw[h1,Int.add_zero];exact⟨hx.keeps hb,hb⟩
theorem aM.shape {w:World} {v:Value} {V:Int} (h:aM w v V):∃ g so sn sc e,v=.agg #[.bool g,.slice so sn sc,.int .i64 e]:=by
 obtain⟨ng,s,m,e',h1,hy,ao,n,cap,d,h2,hR,hN,hv⟩:=h
 subst h2
 exact⟨_,_,_,_,_,h1⟩
def C8 (k s:Nat) (g:Bool) (so:Option Addr) (sn sc:Nat) (e:Int) (W:World):Prop :=
 (W.cell? ⟨k,0,none⟩=some (.int .i64 53)∧W.cell? ⟨k,1,none⟩=some (.int .i64 (-1074))∧W.cell? ⟨k,2,none⟩=some (.int .i64 1024)∧W.cell? ⟨k,3,none⟩=some (.int .i64 9218868437227405312)∧W.cell? ⟨k,4,none⟩=some (.int .i64 (-9223372036854775808))) ∧
 W.cell? ⟨s,0,none⟩=some (.bool g)∧W.cell? ⟨s,1,none⟩=some (.slice so sn sc)∧W.cell? ⟨s,2,none⟩=some (.int .i64 e)
theorem AN (way:Int) (hw:0<=way∧way<=3) (pn qn xg yg:Bool) (xo yo:Option Addr) (xn xc yn yc:Nat) (xe ye Vp Vq:Int) (w:World) (hx:aM w (.agg #[.bool xg,.slice xo xn xc,.int .i64 xe]) Vp) (hy:aM w (.agg #[.bool yg,.slice yo yn yc,.int .i64 ye]) Vq) (bx:Bd 9000 Vp) (bY:Bd 9000 Vq) :
  Calls prog 109 #[cl,.agg #[.bool pn,.bool false,.bool false,.bool xg,.slice xo xn xc,.int .i64 xe],.agg #[.bool qn,.bool false,.bool false,.bool yg,.slice yo yn yc,.int .i64 ye],.int .i64 way] w fun x w'=>∃ r,x=.returned (.int .i64 r)∧Below w.heap.size w w'∧zG way pn qn Vp Vq r:=by
 unfold cl
 have hb3:=dn w (.cells #[.int .i64 53,.int .i64 (-1074),.int .i64 1024,.int .i64 9218868437227405312,.int .i64 (-9223372036854775808)] 120) (.cells #[.bool pn,.bool false,.bool false,.bool xg,.slice xo xn xc,.int .i64 xe] 147) (.cells #[.bool qn,.bool false,.bool false,.bool yg,.slice yo yn yc,.int .i64 ye] 147)
 have g0:=lj w (.cells #[.int .i64 53,.int .i64 (-1074),.int .i64 1024,.int .i64 9218868437227405312,.int .i64 (-9223372036854775808)] 120) (.cells #[.bool pn,.bool false,.bool false,.bool xg,.slice xo xn xc,.int .i64 xe] 147) (.cells #[.bool qn,.bool false,.bool false,.bool yg,.slice yo yn yc,.int .i64 ye] 147)
 have g1:=lk w (.cells #[.int .i64 53,.int .i64 (-1074),.int .i64 1024,.int .i64 9218868437227405312,.int .i64 (-9223372036854775808)] 120) (.cells #[.bool pn,.bool false,.bool false,.bool xg,.slice xo xn xc,.int .i64 xe] 147) (.cells #[.bool qn,.bool false,.bool false,.bool yg,.slice yo yn yc,.int .i64 ye] 147)
 have g2:=jc w (.cells #[.int .i64 53,.int .i64 (-1074),.int .i64 1024,.int .i64 9218868437227405312,.int .i64 (-9223372036854775808)] 120) (.cells #[.bool pn,.bool false,.bool false,.bool xg,.slice xo xn xc,.int .i64 xe] 147) (.cells #[.bool qn,.bool false,.bool false,.bool yg,.slice yo yn yc,.int .i64 ye] 147)
 have hs3:=iH w (.cells #[.int .i64 53,.int .i64 (-1074),.int .i64 1024,.int .i64 9218868437227405312,.int .i64 (-9223372036854775808)] 120) (.cells #[.bool pn,.bool false,.bool false,.bool xg,.slice xo xn xc,.int .i64 xe] 147) (.cells #[.bool qn,.bool false,.bool false,.bool yg,.slice yo yn yc,.int .i64 ye] 147)
 obtain⟨zx,mx⟩:=gE hx
 obtain⟨zy,my⟩:=gE hy
 go_enter func109,ntmps109
 go_wp2_with fail
 have HX:=hx.keeps hb3
 have HY:=hy.keeps hb3
 generalize ((w.alloc (.cells #[.int .i64 53,.int .i64 (-1074),.int .i64 1024,.int .i64 9218868437227405312,.int .i64 (-9223372036854775808)] 120)).alloc (.cells #[.bool pn,.bool false,.bool false,.bool xg,.slice xo xn xc,.int .i64 xe] 147)).alloc (.cells #[.bool qn,.bool false,.bool false,.bool yg,.slice yo yn yc,.int .i64 ye] 147)=wx at hb3 g0 g1 g2 hs3 HX HY ⊢
 refine(wN HX HY (show 9000<=560000 by decide) bx bY).mono ?_
 rintro _ w3 ⟨v,rfl,hS⟩
 obtain⟨hN,hb4⟩:=hS.both HX HY
 obtain⟨g,so,sn,sc,e,rfl⟩:=hN.shape
 obtain⟨zs,ms⟩:=gE hN
 have ok:cY (Vp+Vq):=(bx.add bY (by decide)).ok (by decide)
 have p0:=(hb4.block w.heap.size (by omega)).trans g0
 have p1:=(hb4.block (w.heap.size+1) (by omega)).trans g1
 have p2:=(hb4.block (w.heap.size+2) (by omega)).trans g2
 have P0:=ap (.cells #[.bool g,.slice so sn sc,.int .i64 e] 33) p0
 have P1:=ap (.cells #[.bool g,.slice so sn sc,.int .i64 e] 33) p1
 have P2:=ap (.cells #[.bool g,.slice so sn sc,.int .i64 e] 33) p2
 have Ps:=aA w3 (.cells #[.bool g,.slice so sn sc,.int .i64 e] 33)
 have a0:=af P0 0 rfl
 have a1:=af P0 1 rfl
 have a2:=af P0 2 rfl
 have a3:=af P0 3 rfl
 have a4:=af P0 4 rfl
 have b0:=af P1 0 rfl
 have b1:=af P1 1 rfl
 have b2:=af P1 2 rfl
 have b3:=af P1 3 rfl
 have b4:=af P1 4 rfl
 have b5:=af P1 5 rfl
 have c0:=af P2 0 rfl
 have c1:=af P2 1 rfl
 have c2:=af P2 2 rfl
 have c3:=af P2 3 rfl
 have c4:=af P2 4 rfl
 have c5:=af P2 5 rfl
 have s0:=af Ps 0 rfl
 have s1:=af Ps 1 rfl
 have s2:=af Ps 2 rfl
 have hbw:=ac hb3 hb4
 have hsz:w.heap.size+3<=w3.heap.size:=by have:=hb4.size;omega
 have HN:Hid (aM w3 (.agg #[.bool g,.slice so sn sc,.int .i64 e]) (Vp+Vq)):=hN
 have HOK:Hid (cY (Vp+Vq)):=ok
 clear hS hN ok HX HY hx hy bx bY hb3 hb4
 by_cases hS0:Vp+Vq=0
 ·have hsn:=zs.2 hS0
  subst hsn
  have hb5:=ah w3 (.cells #[.bool g,.slice so 0 sc,.int .i64 e] 33)
  have zq:Vp=0->Vq=0:=fun q=>by omega
  clear zs
  by_cases hx0:xn=0
  ·have hy0:=zy.2 (zq (zx.1 hx0))
   have hV0:=zx.1 hx0
   subst hx0 hy0
   have CZ:=fun W=>iy pn false false xg xo 0 xc xe (by omega) W
   have CY:=fun W=>iy qn false false yg yo 0 yc ye (by omega) W
   simp only[Bool.not_false,Bool.and_self,decide_true] at CZ CY
   clear zx zy zq HN HOK
   have SG:=fun gg W=>gc gg 0 (by omega) W
   unfold cl at SG
   cases pn<;>cases qn
   all_goals
    go_wp2_with fail
    refine(CZ _).mono ?_
    rintro _ w4 ⟨rfl,hb6⟩
    have Q0:=(hb6.block _ (aGe P0).1).trans P0
    have Q1:=(hb6.block _ (aGe P1).1).trans P1
    have Q2:=(hb6.block _ (aGe P2).1).trans P2
    have a0':=af Q0 0 rfl
    have a1':=af Q0 1 rfl
    have a2':=af Q0 2 rfl
    have a3':=af Q0 3 rfl
    have a4':=af Q0 4 rfl
    have b0':=af Q1 0 rfl
    have b1':=af Q1 1 rfl
    have b2':=af Q1 2 rfl
    have b3':=af Q1 3 rfl
    have b4':=af Q1 4 rfl
    have b5':=af Q1 5 rfl
    have c0':=af Q2 0 rfl
    have c1':=af Q2 1 rfl
    have c2':=af Q2 2 rfl
    have c3':=af Q2 3 rfl
    have c4':=af Q2 4 rfl
    have c5':=af Q2 5 rfl
    clear P0 P1 P2
    go_wp2_with fail
    refine(CY _).mono ?_
    rintro _ w5 ⟨rfl,hb7⟩
    have R0:=(hb7.block _ (aGe Q0).1).trans Q0
    have R1:=(hb7.block _ (aGe Q1).1).trans Q1
    have R2:=(hb7.block _ (aGe Q2).1).trans Q2
    have a0'':=af R0 0 rfl
    have a1'':=af R0 1 rfl
    have a2'':=af R0 2 rfl
    have a3'':=af R0 3 rfl
    have a4'':=af R0 4 rfl
    have b0'':=af R1 0 rfl
    have b1'':=af R1 1 rfl
    have b2'':=af R1 2 rfl
    have b3'':=af R1 3 rfl
    have b4'':=af R1 4 rfl
    have b5'':=af R1 5 rfl
    have c0'':=af R2 0 rfl
    have c1'':=af R2 1 rfl
    have c2'':=af R2 2 rfl
    have c3'':=af R2 3 rfl
    have c4'':=af R2 4 rfl
    have c5'':=af R2 5 rfl
    clear Q0 Q1 Q2
    have hbw5:=ac (ac (ac hbw hb5) hb6) hb7
    go_wp2_with fail
    refine(SG _ _).mono ?_
    rintro _ w6 ⟨rfl,hb8⟩
    go_wp2
    go_ret
    refine⟨_,rfl,ac hbw5 hb8,fun _=>?_,fun q=>absurd hS0 q⟩
   ·rw[if_pos ⟨hV0,rfl⟩]
   ·rw[if_neg (fun q=>by cases q.2)];rfl
   ·rw[if_neg (fun q=>by cases q.2)];rfl
   ·rw[if_pos ⟨hV0,rfl⟩]
  ·have hV0:Vp≠0:=fun q=>hx0 (zx.2 q)
   have CZ:=fun W=>iy pn false false xg xo xn xc xe (by omega) W
   rw[decide_eq_false hx0] at CZ
   simp only[Bool.not_false,Bool.and_self,Bool.and_false] at CZ
   have SG:=fun gg W=>gc gg 0 (by omega) W
   unfold cl at SG
   clear zx zy zq HN HOK
   go_wp2_with fail
   refine(CZ _).mono ?_
   rintro _ w4 ⟨rfl,hb6⟩
   have Q0:=(hb6.block _ (aGe P0).1).trans P0
   have Q1:=(hb6.block _ (aGe P1).1).trans P1
   have Q2:=(hb6.block _ (aGe P2).1).trans P2
   have a0':=af Q0 0 rfl
   have a1':=af Q0 1 rfl
   have a2':=af Q0 2 rfl
   have a3':=af Q0 3 rfl
   have a4':=af Q0 4 rfl
   have b0':=af Q1 0 rfl
   have b1':=af Q1 1 rfl
   have b2':=af Q1 2 rfl
   have b3':=af Q1 3 rfl
   have b4':=af Q1 4 rfl
   have b5':=af Q1 5 rfl
   have c0':=af Q2 0 rfl
   have c1':=af Q2 1 rfl
   have c2':=af Q2 2 rfl
   have c3':=af Q2 3 rfl
   have c4':=af Q2 4 rfl
   have c5':=af Q2 5 rfl
   clear P0 P1 P2
   have hbw5:=ac (ac hbw hb5) hb6
   go_wp2_with fail
   refine(SG _ _).mono ?_
   rintro _ w6 ⟨rfl,hb8⟩
   go_wp2
   go_ret
   refine⟨_,rfl,ac hbw5 hb8,fun _=>?_,fun q=>absurd hS0 q⟩
   rw[if_neg (fun q=>hV0 q.1)]
   rfl
 ·have hsn:sn≠0:=fun q=>hS0 (zs.1 q)
  have hsn1:(0:Int)<sn:=by omega
  have hsn2:((sn:Int) == 0)=false:=by simp;omega
  clear zs zx zy
  have hb5:=ah w3 (.cells #[.bool g,.slice so sn sc,.int .i64 e] 33)
  go_wp2_with fail
  have HN4:Hid (aM (w3.alloc (.cells #[.bool g,.slice so sn sc,.int .i64 e] 33)) (.agg #[.bool g,.slice so sn sc,.int .i64 e]) (Vp+Vq)):=HN.out.keeps hb5
  have K8:C8 w.heap.size w3.heap.size g so sn sc e (w3.alloc (.cells #[.bool g,.slice so sn sc,.int .i64 e] 33)):=⟨⟨a0,a1,a2,a3,a4⟩,s0,s1,s2⟩
  have hbw4:=ac hbw hb5
  clear a0 a1 a2 a3 a4 b0 b1 b2 b3 b4 b5 c0 c1 c2 c3 c4 c5 P0 P1 P2 Ps s0 s1 s2 p0 p1 p2 g0 g1 g2 HN
  generalize w3.alloc (.cells #[.bool g,.slice so sn sc,.int .i64 e] 33)=w4 at hb5 HN4 K8 hbw4 ⊢
  have CC:∀ W,Below w4.heap.size w4 W->Calls prog 132 #[.agg #[.int .i64 53,.int .i64 (-1074),.int .i64 1024,.int .i64 9218868437227405312,.int .i64 (-9223372036854775808)],.bool g,.slice so sn sc,.int .i64 e,.bool false,.int .i64 way] W fun x w'=>∃ p o,x=.returned (.tuple #[.int .i64 p,.bool o])∧Below W.heap.size W w'∧pG way (decide (Vp+Vq<0)) (Vp+Vq).natAbs p:=fun W hW=>zF way hw (HN4.out.keeps hW) HOK.out hS0
  refine(CC _ (al _)).mono ?_
  rintro _ w5 ⟨p,o,rfl,hb6,hR⟩
  go_wp2
  all_goals go_ret
  all_goals exact⟨_,rfl,ac hbw4 hb6,fun q=>absurd q hS0,fun _=>hR⟩
def mc (pn pa pi qn qa qi:Bool):Int:=if pa||qa||(pi&&qi&&(pn != qn)) then 9221120237041090561 else if pi then aP pn 9218868437227405312 else aP qn 9218868437227405312
theorem wY (way:Int) (pn pa pi qn qa qi xg yg:Bool) (xo yo:Option Addr) (xn xc yn yc:Nat) (xe ye:Int) (w:World) (h:(pa||qa||pi||qi)=true) :
  Calls prog 109 #[cl,.agg #[.bool pn,.bool pa,.bool pi,.bool xg,.slice xo xn xc,.int .i64 xe],.agg #[.bool qn,.bool qa,.bool qi,.bool yg,.slice yo yn yc,.int .i64 ye],.int .i64 way] w fun x w'=>x=.returned (.int .i64 (mc pn pa pi qn qa qi))∧Below w.heap.size w w':=by
 have SG:=fun gg W=>gc gg 9218868437227405312 (by omega) W
 have NA:=fun W=>rZ W
 unfold cl at *
 unfold mc
 cases pa
 ·cases qa
  ·cases pi
   ·cases qi
    ·cases h
    ·go_enter func109,ntmps109
     go_wp2_with fail
     refine(SG _ _).mono ?_
     rintro _ w1 ⟨rfl,hb1⟩
     go_wp2
     go_ret
     exact⟨by simp,ac (dn w _ _ _) hb1⟩
   ·cases qi
    ·go_enter func109,ntmps109
     go_wp2_with fail
     refine(SG _ _).mono ?_
     rintro _ w1 ⟨rfl,hb1⟩
     go_wp2
     go_ret
     exact⟨by simp,ac (dn w _ _ _) hb1⟩
    ·cases pn<;>cases qn
     all_goals
      go_enter func109,ntmps109
      go_wp2_with fail
      first|refine(SG _ _).mono ?_|refine(NA _).mono ?_
      rintro _ w1 ⟨rfl,hb1⟩
      go_wp2
      go_ret
      exact⟨by simp,ac (dn w _ _ _) hb1⟩
  ·go_enter func109,ntmps109
   go_wp2_with fail
   refine(NA _).mono ?_
   rintro _ w1 ⟨rfl,hb1⟩
   go_wp2
   go_ret
   exact⟨by simp,ac (dn w _ _ _) hb1⟩
 ·go_enter func109,ntmps109
  go_wp2_with fail
  refine(NA _).mono ?_
  rintro _ w1 ⟨rfl,hb1⟩
  go_wp2
  go_ret
  exact⟨by simp,ac (dn w _ _ _) hb1⟩
def nZ (way:Int) (ng na ni:Bool) (V:Int) (r:Int):Prop :=
 if na then r=9221120237041090561 else if ni then r=aP ng 9218868437227405312 else if V=0 then r=aP ng 0 else pG way (decide (V<0)) V.natAbs r
theorem uR (way:Int) (hw:0<=way∧way<=3) (ng na ni xg:Bool) (xo:Option Addr) (xn xc:Nat) (xe V:Int) (w:World) (hx:aM w (.agg #[.bool xg,.slice xo xn xc,.int .i64 xe]) V) (ok:cY V) :
  Calls prog 111 #[cl,.agg #[.bool ng,.bool na,.bool ni,.bool xg,.slice xo xn xc,.int .i64 xe],.int .i64 way] w fun x w'=>∃ r,x=.returned (.int .i64 r)∧Below w.heap.size w w'∧nZ way ng na ni V r:=by
 have SI:=fun gg W=>gc gg 9218868437227405312 (by omega) W
 have SG:=fun gg W=>gc gg 0 (by omega) W
 have NA:=fun W=>rZ W
 obtain⟨zx,mx⟩:=gE hx
 have hb2:=aL w (.cells #[.int .i64 53,.int .i64 (-1074),.int .i64 1024,.int .i64 9218868437227405312,.int .i64 (-9223372036854775808)] 120) (.cells #[.bool ng,.bool na,.bool ni,.bool xg,.slice xo xn xc,.int .i64 xe] 147)
 have CC:=fun (h0:V≠0) W hW=>zF way hw (aM.keeps (w':=W) (hx.keeps hb2) hW) ok h0
 unfold cl at *
 unfold nZ
 cases na
 ·cases ni
  ·by_cases h0:V=0
   ·have hxn:=zx.2 h0
    subst hxn
    simp only[Bool.false_eq_true,if_false,h0,if_true]
    clear CC zx
    go_enter func111,ntmps111
    go_wp2_with fail
    refine(SG _ _).mono ?_
    rintro _ w1 ⟨rfl,hb1⟩
    go_wp2
    go_ret
    exact⟨_,rfl,ac hb2 hb1,rfl⟩
   ·have hsn:xn≠0:=fun q=>h0 (zx.1 q)
    have hsn1:(0:Int)<xn:=by omega
    have hsn2:((xn:Int) == 0)=false:=by simp;omega
    simp only[Bool.false_eq_true,if_false,h0]
    have CC':=CC h0
    clear CC zx
    go_enter func111,ntmps111
    go_wp2_with fail
    refine(CC' _ (al _)).mono ?_
    rintro _ w1 ⟨p,o,rfl,hb1,hR⟩
    go_wp2
    go_ret
    exact⟨_,rfl,ac hb2 hb1,hR⟩
  ·simp only[Bool.false_eq_true,if_false,if_true]
   clear CC zx
   go_enter func111,ntmps111
   go_wp2_with fail
   refine(SI _ _).mono ?_
   rintro _ w1 ⟨rfl,hb1⟩
   go_wp2
   go_ret
   exact⟨_,rfl,ac hb2 hb1,rfl⟩
 ·simp only[if_true]
  clear CC zx
  go_enter func111,ntmps111
  go_wp2_with fail
  refine(NA _).mono ?_
  rintro _ w1 ⟨rfl,hb1⟩
  go_wp2
  go_ret
  exact⟨_,rfl,ac hb2 hb1,rfl⟩
theorem uS (pn qn:Bool) (x y:aI) (w:World) (hx:aS w x.ao x.n x.cap x.d) (hy:aS w y.ao y.n y.cap y.d) (sx:dR x) (sy:dR y) :
  Calls prog 112 #[.agg #[.bool pn,.bool false,.bool false,.bool x.ng,.slice x.ao x.n x.cap,.int .i64 x.e],.agg #[.bool qn,.bool false,.bool false,.bool y.ng,.slice y.ao y.n y.cap,.int .i64 y.e]] w fun r w'=>∃ v,r=.returned v∧Below w.heap.size w w'∧Pt w' (pn != qn) false false (lp x y) v:=by
 have CM:=fun W hW=>pt x y W (aS.keeps (w':=W) hx hW) (aS.keeps (w':=W) hy hW) sx sy
 generalize lp x y=V at CM ⊢
 obtain⟨an,ao,n,ca,a,e⟩:=x
 obtain⟨bn,bo,m,cb,b,f⟩:=y
 unfold aI.v at CM
 simp only at *
 clear hx hy sx sy
 go_enter func112,ntmps112
 go_wp2_with fail
 refine(CM _ (eS w _ _ _ _)).mono ?_
 rintro _ w3 ⟨v,rfl,hD⟩
 obtain⟨ng',s',m',e',rfl,hyy,hA2⟩:=id hD
 obtain⟨so',sn',sc',rfl⟩:=hA2.num.shape
 have q1:=(hD.below.block (w.heap.size+2) (by rw[kw];omega)).trans (gJ _ _ _ _ _)
 have q2:=(hD.below.block (w.heap.size+3) (by rw[kw];omega)).trans (gK _ _ _ _ _)
 have x0:=af q1 0 rfl
 have f0:=ar q1 0
 have x1:=af q1 1 rfl
 have f1:=ar q1 1
 have x2:=af q1 2 rfl
 have f2:=ar q1 2
 have x3:=af q1 3 rfl
 have f3:=ar q1 3
 have x4:=af q1 4 rfl
 have f4:=ar q1 4
 have x5:=af q1 5 rfl
 have f5:=ar q1 5
 have y0:=af q2 0 rfl
 have y1:=af q2 1 rfl
 have y2:=af q2 2 rfl
 have y3:=af q2 3 rfl
 have y4:=af q2 4 rfl
 have y5:=af q2 5 rfl
 have g3:=ar q2 3
 have g4:=ar q2 4
 have g5:=ar q2 5
 have hbw:=ac (eS w _ _ _ _) hD.below
 have hDa:=hD.dan
 rw[kw] at hDa
 clear hD hA2 hyy CM q1 q2
 go_wp2
 refine bodyPost_ret (v:=.agg #[.bool (!(pn == qn)),.bool false,.bool false,.bool ng',.slice so' sn' sc',.int .i64 e']) (by simp[results,results112,go_sem,x0,x1,x2,x3,x4,x5]) rfl ⟨_,rfl,?_,?_⟩
 ·iterate 9 (refine Below.setCell ?_ (by dsimp only;omega) _)
  exact hbw
 ·refine⟨_,_,_,_,_,rfl,bJ.num (B:=w.heap.size+4) ?_⟩
  iterate 9 (refine bJ.set ?_ (by dsimp only;omega) _)
  exact hDa
theorem uU (pn pa pi qn qa qi xg yg:Bool) (xo yo:Option Addr) (xn xc yn yc:Nat) (xe ye:Int) (w:World) (h:(pa||qa)=true) :
  Calls prog 112 #[.agg #[.bool pn,.bool pa,.bool pi,.bool xg,.slice xo xn xc,.int .i64 xe],.agg #[.bool qn,.bool qa,.bool qi,.bool yg,.slice yo yn yc,.int .i64 ye]] w fun r w'=>∃ v,r=.returned v∧Below w.heap.size w w'∧Pt w' (pn != qn) true false 0 v:=by
 have bl:(pa=true)∨(pa=false∧qa=true):=by cases pa<;>cases qa<;>simp_all
 rcases bl with rfl|⟨rfl,rfl⟩
 all_goals
  clear h
  go_enter func112,ntmps112
  go_wp2
  refine bodyPost_ret (v:=.agg #[.bool (!(pn == qn)),.bool true,.bool false,.bool false,.slice none 0 0,.int .i64 0]) (by simp[results,results112,go_sem]) rfl ⟨_,rfl,?_,?_⟩
  ·exact eS w _ _ _ _
  ·exact⟨_,_,_,_,_,rfl,aM.zero _⟩
theorem uV (pn pi qn qi xg yg:Bool) (xo yo:Option Addr) (xn xc yn yc:Nat) (xe ye:Int) (w:World) (hx:xn<=9223372036854775807) (hy:yn<=9223372036854775807) (h:(pi||qi)=true) :
  Calls prog 112 #[.agg #[.bool pn,.bool false,.bool pi,.bool xg,.slice xo xn xc,.int .i64 xe],.agg #[.bool qn,.bool false,.bool qi,.bool yg,.slice yo yn yc,.int .i64 ye]] w fun r w'=>∃ v,r=.returned v∧Below w.heap.size w w'∧Pt w' (pn != qn) ((pi&&!qi&&decide (yn=0))||(qi&&!pi&&decide (xn=0))) (!((pi&&!qi&&decide (yn=0))||(qi&&!pi&&decide (xn=0)))) 0 v:=by
 have CZ:=fun W=>iy pn false pi xg xo xn xc xe hx W
 have CY:=fun W=>iy qn false qi yg yo yn yc ye hy W
 obtain⟨zx,hzx⟩:∃ z,decide (xn=0)=z:=⟨_,rfl⟩
 obtain⟨zy,hzy⟩:∃ z,decide (yn=0)=z:=⟨_,rfl⟩
 rw[hzx,hzy]
 rw[hzx] at CZ
 rw[hzy] at CY
 clear hzx hzy
 cases pi<;>cases qi
 ·cases h
 ·cases zx
  ·simp only[Bool.not_false,Bool.not_true,Bool.and_self,Bool.and_false,Bool.and_true,Bool.false_and,Bool.true_and] at CZ CY
   go_enter func112,ntmps112
   go_wp2_with fail
   refine(CZ _).mono ?_
   rintro _ w1 ⟨rfl,hb1⟩
   have Q0:=(hb1.block _ (aGe (gW _ _ _ _ _)).1).trans (gW _ _ _ _ _)
   have Q1:=(hb1.block _ (aGe (gX _ _ _ _ _)).1).trans (gX _ _ _ _ _)
   have Q2:=(hb1.block _ (aGe (gJ _ _ _ _ _)).1).trans (gJ _ _ _ _ _)
   have Q3:=(hb1.block _ (aGe (gK _ _ _ _ _)).1).trans (gK _ _ _ _ _)
   have a0:=af Q0 0 rfl
   have a1:=af Q0 1 rfl
   have a2:=af Q0 2 rfl
   have a3:=af Q0 3 rfl
   have a4:=af Q0 4 rfl
   have a5:=af Q0 5 rfl
   have b0:=af Q1 0 rfl
   have b1:=af Q1 1 rfl
   have b2:=af Q1 2 rfl
   have b3:=af Q1 3 rfl
   have b4:=af Q1 4 rfl
   have b5:=af Q1 5 rfl
   have c0:=af Q2 0 rfl
   have c1:=af Q2 1 rfl
   have c2:=af Q2 2 rfl
   have c3:=af Q2 3 rfl
   have c4:=af Q2 4 rfl
   have c5:=af Q2 5 rfl
   have d0:=af Q3 0 rfl
   have d1:=af Q3 1 rfl
   have d2:=af Q3 2 rfl
   have d3:=af Q3 3 rfl
   have d4:=af Q3 4 rfl
   have d5:=af Q3 5 rfl
   have fc0:=ar Q2 0
   have fc1:=ar Q2 1
   have fc2:=ar Q2 2
   have fc3:=ar Q2 3
   have fc4:=ar Q2 4
   have fc5:=ar Q2 5
   have fd1:=ar Q3 1
   have fd2:=ar Q3 2
   have hbw:=ac (eS w _ _ _ _) hb1
   clear CZ CY hb1 Q0 Q1 Q2 Q3
   go_wp2
   refine bodyPost_ret (v:=.agg #[.bool (!(pn == qn)),.bool false,.bool true,.bool false,.slice none 0 0,.int .i64 0]) (by simp[results,results112,go_sem,c0,c1,c2,c3,c4,c5]) rfl ⟨_,rfl,?_,?_⟩
   ·iterate 7 (refine Below.setCell ?_ (by dsimp only;omega) _)
    exact hbw
   ·exact⟨_,_,_,_,_,rfl,aM.zero _⟩
  ·simp only[Bool.not_false,Bool.not_true,Bool.and_self,Bool.and_false,Bool.and_true,Bool.false_and,Bool.true_and] at CZ CY
   go_enter func112,ntmps112
   go_wp2_with fail
   refine(CZ _).mono ?_
   rintro _ w1 ⟨rfl,hb1⟩
   have Q0:=(hb1.block _ (aGe (gW _ _ _ _ _)).1).trans (gW _ _ _ _ _)
   have Q1:=(hb1.block _ (aGe (gX _ _ _ _ _)).1).trans (gX _ _ _ _ _)
   have Q2:=(hb1.block _ (aGe (gJ _ _ _ _ _)).1).trans (gJ _ _ _ _ _)
   have Q3:=(hb1.block _ (aGe (gK _ _ _ _ _)).1).trans (gK _ _ _ _ _)
   have a0:=af Q0 0 rfl
   have a1:=af Q0 1 rfl
   have a2:=af Q0 2 rfl
   have a3:=af Q0 3 rfl
   have a4:=af Q0 4 rfl
   have a5:=af Q0 5 rfl
   have b0:=af Q1 0 rfl
   have b1:=af Q1 1 rfl
   have b2:=af Q1 2 rfl
   have b3:=af Q1 3 rfl
   have b4:=af Q1 4 rfl
   have b5:=af Q1 5 rfl
   have c0:=af Q2 0 rfl
   have c1:=af Q2 1 rfl
   have c2:=af Q2 2 rfl
   have c3:=af Q2 3 rfl
   have c4:=af Q2 4 rfl
   have c5:=af Q2 5 rfl
   have d0:=af Q3 0 rfl
   have d1:=af Q3 1 rfl
   have d2:=af Q3 2 rfl
   have d3:=af Q3 3 rfl
   have d4:=af Q3 4 rfl
   have d5:=af Q3 5 rfl
   have fc0:=ar Q2 0
   have fc1:=ar Q2 1
   have fc2:=ar Q2 2
   have fc3:=ar Q2 3
   have fc4:=ar Q2 4
   have fc5:=ar Q2 5
   have fd1:=ar Q3 1
   have fd2:=ar Q3 2
   have hbw:=ac (eS w _ _ _ _) hb1
   clear CZ CY hb1 Q0 Q1 Q2 Q3
   go_wp2
   refine bodyPost_ret (v:=.agg #[.bool (!(pn == qn)),.bool true,.bool false,.bool false,.slice none 0 0,.int .i64 0]) (by simp[results,results112,go_sem,c0,c1,c2,c3,c4,c5]) rfl ⟨_,rfl,?_,?_⟩
   ·iterate 7 (refine Below.setCell ?_ (by dsimp only;omega) _)
    exact hbw
   ·exact⟨_,_,_,_,_,rfl,aM.zero _⟩
 ·cases zy
  ·simp only[Bool.not_false,Bool.not_true,Bool.and_self,Bool.and_false,Bool.and_true,Bool.false_and,Bool.true_and] at CZ CY
   go_enter func112,ntmps112
   go_wp2_with fail
   refine(CY _).mono ?_
   rintro _ w1 ⟨rfl,hb1⟩
   have Q0:=(hb1.block _ (aGe (gW _ _ _ _ _)).1).trans (gW _ _ _ _ _)
   have Q1:=(hb1.block _ (aGe (gX _ _ _ _ _)).1).trans (gX _ _ _ _ _)
   have Q2:=(hb1.block _ (aGe (gJ _ _ _ _ _)).1).trans (gJ _ _ _ _ _)
   have Q3:=(hb1.block _ (aGe (gK _ _ _ _ _)).1).trans (gK _ _ _ _ _)
   have a0:=af Q0 0 rfl
   have a1:=af Q0 1 rfl
   have a2:=af Q0 2 rfl
   have a3:=af Q0 3 rfl
   have a4:=af Q0 4 rfl
   have a5:=af Q0 5 rfl
   have b0:=af Q1 0 rfl
   have b1:=af Q1 1 rfl
   have b2:=af Q1 2 rfl
   have b3:=af Q1 3 rfl
   have b4:=af Q1 4 rfl
   have b5:=af Q1 5 rfl
   have c0:=af Q2 0 rfl
   have c1:=af Q2 1 rfl
   have c2:=af Q2 2 rfl
   have c3:=af Q2 3 rfl
   have c4:=af Q2 4 rfl
   have c5:=af Q2 5 rfl
   have d0:=af Q3 0 rfl
   have d1:=af Q3 1 rfl
   have d2:=af Q3 2 rfl
   have d3:=af Q3 3 rfl
   have d4:=af Q3 4 rfl
   have d5:=af Q3 5 rfl
   have fc0:=ar Q2 0
   have fc1:=ar Q2 1
   have fc2:=ar Q2 2
   have fc3:=ar Q2 3
   have fc4:=ar Q2 4
   have fc5:=ar Q2 5
   have fd1:=ar Q3 1
   have fd2:=ar Q3 2
   have hbw:=ac (eS w _ _ _ _) hb1
   clear CZ CY hb1 Q0 Q1 Q2 Q3
   go_wp2
   refine bodyPost_ret (v:=.agg #[.bool (!(pn == qn)),.bool false,.bool true,.bool false,.slice none 0 0,.int .i64 0]) (by simp[results,results112,go_sem,c0,c1,c2,c3,c4,c5]) rfl ⟨_,rfl,?_,?_⟩
   ·iterate 7 (refine Below.setCell ?_ (by dsimp only;omega) _)
    exact hbw
   ·exact⟨_,_,_,_,_,rfl,aM.zero _⟩
  ·simp only[Bool.not_false,Bool.not_true,Bool.and_self,Bool.and_false,Bool.and_true,Bool.false_and,Bool.true_and] at CZ CY
   go_enter func112,ntmps112
   go_wp2_with fail
   refine(CY _).mono ?_
   rintro _ w1 ⟨rfl,hb1⟩
   have Q0:=(hb1.block _ (aGe (gW _ _ _ _ _)).1).trans (gW _ _ _ _ _)
   have Q1:=(hb1.block _ (aGe (gX _ _ _ _ _)).1).trans (gX _ _ _ _ _)
   have Q2:=(hb1.block _ (aGe (gJ _ _ _ _ _)).1).trans (gJ _ _ _ _ _)
   have Q3:=(hb1.block _ (aGe (gK _ _ _ _ _)).1).trans (gK _ _ _ _ _)
   have a0:=af Q0 0 rfl
   have a1:=af Q0 1 rfl
   have a2:=af Q0 2 rfl
   have a3:=af Q0 3 rfl
   have a4:=af Q0 4 rfl
   have a5:=af Q0 5 rfl
   have b0:=af Q1 0 rfl
   have b1:=af Q1 1 rfl
   have b2:=af Q1 2 rfl
   have b3:=af Q1 3 rfl
   have b4:=af Q1 4 rfl
   have b5:=af Q1 5 rfl
   have c0:=af Q2 0 rfl
   have c1:=af Q2 1 rfl
   have c2:=af Q2 2 rfl
   have c3:=af Q2 3 rfl
   have c4:=af Q2 4 rfl
   have c5:=af Q2 5 rfl
   have d0:=af Q3 0 rfl
   have d1:=af Q3 1 rfl
   have d2:=af Q3 2 rfl
   have d3:=af Q3 3 rfl
   have d4:=af Q3 4 rfl
   have d5:=af Q3 5 rfl
   have fc0:=ar Q2 0
   have fc1:=ar Q2 1
   have fc2:=ar Q2 2
   have fc3:=ar Q2 3
   have fc4:=ar Q2 4
   have fc5:=ar Q2 5
   have fd1:=ar Q3 1
   have fd2:=ar Q3 2
   have hbw:=ac (eS w _ _ _ _) hb1
   clear CZ CY hb1 Q0 Q1 Q2 Q3
   go_wp2
   refine bodyPost_ret (v:=.agg #[.bool (!(pn == qn)),.bool true,.bool false,.bool false,.slice none 0 0,.int .i64 0]) (by simp[results,results112,go_sem,c0,c1,c2,c3,c4,c5]) rfl ⟨_,rfl,?_,?_⟩
   ·iterate 7 (refine Below.setCell ?_ (by dsimp only;omega) _)
    exact hbw
   ·exact⟨_,_,_,_,_,rfl,aM.zero _⟩
 ·simp only[Bool.not_false,Bool.not_true,Bool.and_self,Bool.and_false,Bool.and_true,Bool.false_and,Bool.true_and] at CZ CY
  go_enter func112,ntmps112
  go_wp2_with fail
  refine(CY _).mono ?_
  rintro _ w1 ⟨rfl,hb1⟩
  have Q0:=(hb1.block _ (aGe (gW _ _ _ _ _)).1).trans (gW _ _ _ _ _)
  have Q1:=(hb1.block _ (aGe (gX _ _ _ _ _)).1).trans (gX _ _ _ _ _)
  have Q2:=(hb1.block _ (aGe (gJ _ _ _ _ _)).1).trans (gJ _ _ _ _ _)
  have Q3:=(hb1.block _ (aGe (gK _ _ _ _ _)).1).trans (gK _ _ _ _ _)
  have a0:=af Q0 0 rfl
  have a1:=af Q0 1 rfl
  have a2:=af Q0 2 rfl
  have a3:=af Q0 3 rfl
  have a4:=af Q0 4 rfl
  have a5:=af Q0 5 rfl
  have b0:=af Q1 0 rfl
  have b1:=af Q1 1 rfl
  have b2:=af Q1 2 rfl
  have b3:=af Q1 3 rfl
  have b4:=af Q1 4 rfl
  have b5:=af Q1 5 rfl
  have c0:=af Q2 0 rfl
  have c1:=af Q2 1 rfl
  have c2:=af Q2 2 rfl
  have c3:=af Q2 3 rfl
  have c4:=af Q2 4 rfl
  have c5:=af Q2 5 rfl
  have d0:=af Q3 0 rfl
  have d1:=af Q3 1 rfl
  have d2:=af Q3 2 rfl
  have d3:=af Q3 3 rfl
  have d4:=af Q3 4 rfl
  have d5:=af Q3 5 rfl
  have fc0:=ar Q2 0
  have fc1:=ar Q2 1
  have fc2:=ar Q2 2
  have fc3:=ar Q2 3
  have fc4:=ar Q2 4
  have fc5:=ar Q2 5
  have fd1:=ar Q3 1
  have fd2:=ar Q3 2
  have hbw:=ac (eS w _ _ _ _) hb1
  clear CY hb1
  go_wp2_with fail
  refine(CZ _).mono ?_
  rintro _ w2 ⟨rfl,hb2⟩
  have R0:=(hb2.block _ (aGe (Q0)).1).trans (Q0)
  have R1:=(hb2.block _ (aGe (Q1)).1).trans (Q1)
  have R2:=(hb2.block _ (aGe (Q2)).1).trans (Q2)
  have R3:=(hb2.block _ (aGe (Q3)).1).trans (Q3)
  have a0':=af R0 0 rfl
  have a1':=af R0 1 rfl
  have a2':=af R0 2 rfl
  have a3':=af R0 3 rfl
  have a4':=af R0 4 rfl
  have a5':=af R0 5 rfl
  have b0':=af R1 0 rfl
  have b1':=af R1 1 rfl
  have b2':=af R1 2 rfl
  have b3':=af R1 3 rfl
  have b4':=af R1 4 rfl
  have b5':=af R1 5 rfl
  have c0':=af R2 0 rfl
  have c1':=af R2 1 rfl
  have c2':=af R2 2 rfl
  have c3':=af R2 3 rfl
  have c4':=af R2 4 rfl
  have c5':=af R2 5 rfl
  have d0':=af R3 0 rfl
  have d1':=af R3 1 rfl
  have d2':=af R3 2 rfl
  have d3':=af R3 3 rfl
  have d4':=af R3 4 rfl
  have d5':=af R3 5 rfl
  have fc0':=ar R2 0
  have fc1':=ar R2 1
  have fc2':=ar R2 2
  have fc3':=ar R2 3
  have fc4':=ar R2 4
  have fc5':=ar R2 5
  have fd1':=ar R3 1
  have fd2':=ar R3 2
  have hbw2:=ac hbw hb2
  clear CZ hb2 hbw Q0 Q1 Q2 Q3 R0 R1 R2 R3
  go_wp2
  refine bodyPost_ret (v:=.agg #[.bool (!(pn == qn)),.bool false,.bool true,.bool false,.slice none 0 0,.int .i64 0]) (by simp[results,results112,go_sem,c0',c1',c2',c3',c4',c5']) rfl ⟨_,rfl,?_,?_⟩
  ·iterate 7 (refine Below.setCell ?_ (by dsimp only;omega) _)
   exact hbw2
  ·exact⟨_,_,_,_,_,rfl,aM.zero _⟩
theorem Pt.keeps {w w':World} {ng na ni:Bool} {V:Int} {v:Value} (h:Pt w ng na ni V v) (hb:Below w.heap.size w w'):Pt w' ng na ni V v:=by
 obtain⟨xg,xo,xn,xc,xe,h1,h2⟩:=h
 exact⟨xg,xo,xn,xc,xe,h1,h2.keeps hb⟩
def zH (way:Int) (pn pa pi:Bool) (Vp:Int) (qn qa qi:Bool) (Vq:Int) (r:Int):Prop:=if (pa||qa||pi||qi)=true then r=mc pn pa pi qn qa qi else zG way pn qn Vp Vq r
theorem sf (way:Int) (hw:0<=way∧way<=3) {w:World} {pn pa pi qn qa qi:Bool} {Vp Vq:Int} {p q:Value} (hp:Pt w pn pa pi Vp p) (hq:Pt w qn qa qi Vq q) (bp:Bd 9000 Vp) (bq:Bd 9000 Vq) :
  Calls prog 109 #[cl,p,q,.int .i64 way] w fun x w'=>∃ r,x=.returned (.int .i64 r)∧Below w.heap.size w w'∧zH way pn pa pi Vp qn qa qi Vq r:=by
 obtain⟨xg,xo,xn,xc,xe,rfl,hx⟩:=hp
 obtain⟨yg,yo,yn,yc,ye,rfl,hy⟩:=hq
 unfold zH
 by_cases h:(pa||qa||pi||qi)=true
 ·refine(wY way pn pa pi qn qa qi xg yg xo yo xn xc yn yc xe ye w h).mono ?_
  rintro x w' ⟨rfl,hb⟩
  exact⟨_,rfl,hb,by rw[if_pos h]⟩
 ·have h2:pa=false∧qa=false∧pi=false∧qi=false:=by cases pa<;>cases qa<;>cases pi<;>cases qi<;>simp_all
  obtain⟨rfl,rfl,rfl,rfl⟩:=h2
  refine(AN way hw pn qn xg yg xo yo xn xc yn yc xe ye Vp Vq w hx hy bp bq).mono ?_
  rintro x w' ⟨r,rfl,hb,hr⟩
  exact⟨_,rfl,hb,by rw[if_neg h];exact hr⟩
theorem ie (b:Int):Bd 4000 (am b):=by
 by_cases h:aF b=true
 ·exact jS h
 ·rw[(iS h).2]
  exact⟨0,by simp,by have:=aJ (2*4000);omega,aJ _⟩
def K5 (k:Nat) (W:World):Prop:=W.cell? ⟨k,0,none⟩=some (.int .i64 53)∧W.cell? ⟨k,1,none⟩=some (.int .i64 (-1074))∧W.cell? ⟨k,2,none⟩=some (.int .i64 1024)∧W.cell? ⟨k,3,none⟩=some (.int .i64 9218868437227405312)∧W.cell? ⟨k,4,none⟩=some (.int .i64 (-9223372036854775808))
theorem K5.keeps {k:Nat} {W W':World} (h:K5 k W) (hb:Below W.heap.size W W'):K5 k W':=by
 obtain⟨h0,h1,h2,h3,h4⟩:=h
 exact⟨aX h0 hb,aX h1 hb,aX h2 hb,aX h3 hb,aX h4 hb⟩
theorem yO {way a b:Int} {an aa ai bn ba bi:Bool} {aV bV:Int} {R:Int->Prop} (w:World)
    (LA:∀ W,Calls prog 110 #[(.agg #[.int .i64 53,.int .i64 (-1074),.int .i64 1024,.int .i64 9218868437227405312,.int .i64 (-9223372036854775808)]),.int .i64 a] W fun e w'=>∃ v,e=.returned v∧Below W.heap.size W w'∧Pt w' an aa ai aV v)
    (LB:∀ W,Calls prog 110 #[(.agg #[.int .i64 53,.int .i64 (-1074),.int .i64 1024,.int .i64 9218868437227405312,.int .i64 (-9223372036854775808)]),.int .i64 b] W fun e w'=>∃ v,e=.returned v∧Below W.heap.size W w'∧Pt w' bn ba bi bV v)
    (PL:∀ W p q,Pt W an aa ai aV p->Pt W bn ba bi bV q->Calls prog 109 #[(.agg #[.int .i64 53,.int .i64 (-1074),.int .i64 1024,.int .i64 9218868437227405312,.int .i64 (-9223372036854775808)]),p,q,.int .i64 way] W fun x w'=>∃ r,x=.returned (.int .i64 r)∧Below W.heap.size W w'∧R r) :
    Calls prog 83 #[(.agg #[.int .i64 53,.int .i64 (-1074),.int .i64 1024,.int .i64 9218868437227405312,.int .i64 (-9223372036854775808)]),.int .i64 a,.int .i64 b,.int .i64 way] w fun x w'=>∃ r,x=.returned (.int .i64 r)∧Below w.heap.size w w'∧R r:=by
  have hba:=ah w (.cells #[.int .i64 53,.int .i64 (-1074),.int .i64 1024,.int .i64 9218868437227405312,.int .i64 (-9223372036854775808)] 120)
  have q0:=heap_alloc_new w (.cells #[.int .i64 53,.int .i64 (-1074),.int .i64 1024,.int .i64 9218868437227405312,.int .i64 (-9223372036854775808)] 120)
  have a0:=af q0 0 rfl
  have a1:=af q0 1 rfl
  have a2:=af q0 2 rfl
  have a3:=af q0 3 rfl
  have a4:=af q0 4 rfl
  go_enter func83,ntmps83
  go_wp2_with fail
  have k5:K5 w.heap.size (w.alloc (.cells #[.int .i64 53,.int .i64 (-1074),.int .i64 1024,.int .i64 9218868437227405312,.int .i64 (-9223372036854775808)] 120)):=⟨a0,a1,a2,a3,a4⟩
  clear a0 a1 a2 a3 a4 q0
  generalize w.alloc (.cells #[.int .i64 53,.int .i64 (-1074),.int .i64 1024,.int .i64 9218868437227405312,.int .i64 (-9223372036854775808)] 120)=wx at hba k5 ⊢
  have hdr:Below wx.heap.size wx wx.drew:=(al wx).drew
  go_region_held3 (fun W=>W.cell? ⟨w.heap.size,0,none⟩=some (.int .i64 53)∧W.cell? ⟨w.heap.size,1,none⟩=some (.int .i64 (-1074))∧W.cell? ⟨w.heap.size,2,none⟩=some (.int .i64 1024)∧W.cell? ⟨w.heap.size,3,none⟩=some (.int .i64 9218868437227405312)∧W.cell? ⟨w.heap.size,4,none⟩=some (.int .i64 (-9223372036854775808)))
    (first|assumption|exact k5|exact K5.keeps k5 hdr|exact k51|exact k52|exact k53)
    (first
      | (go_at_call 109;refine(PL _ _ _ (hv1.keeps hb2) hv2).mono ?_;rintro _ w3 ⟨r,rfl,hb3,hR⟩;have k53:=K5.keeps k52 hb3)
      | (go_at_call 110;have _t:=hv1;refine(LB _).mono ?_;rintro _ w2 ⟨v2,rfl,hb2,hv2⟩;have k52:=K5.keeps k51 hb2)
      | (go_at_call 110; refine (LA _).mono ?_; rintro _ w1 ⟨v1,rfl,hb1,hv1⟩; have k51:=K5.keeps (K5.keeps k5 hdr) hb1))
  all_goals go_wp2
  all_goals go_ret
  all_goals exact⟨_,rfl,ac hba (ac hdr (ac hb1 (ac hb2 hb3))),hR⟩
theorem yP {way a b:Int} {an aa ai bn ba bi:Bool} {aV bV:Int} {R:Int->Prop} (T:World->Value->Prop) (hT:∀ W W' v,T W v->Below W.heap.size W W'->T W' v) (w:World)
    (LA:∀ W,Calls prog 110 #[(.agg #[.int .i64 53,.int .i64 (-1074),.int .i64 1024,.int .i64 9218868437227405312,.int .i64 (-9223372036854775808)]),.int .i64 a] W fun e w'=>∃ v,e=.returned v∧Below W.heap.size W w'∧Pt w' an aa ai aV v)
    (LB:∀ W,Calls prog 110 #[(.agg #[.int .i64 53,.int .i64 (-1074),.int .i64 1024,.int .i64 9218868437227405312,.int .i64 (-9223372036854775808)]),.int .i64 b] W fun e w'=>∃ v,e=.returned v∧Below W.heap.size W w'∧Pt w' bn ba bi bV v)
    (TI:∀ W p q,Pt W an aa ai aV p->Pt W bn ba bi bV q->Calls prog 112 #[p,q] W fun x w'=>∃ v,x=.returned v∧Below W.heap.size W w'∧T w' v)
    (CL:∀ W v,T W v->Calls prog 111 #[(.agg #[.int .i64 53,.int .i64 (-1074),.int .i64 1024,.int .i64 9218868437227405312,.int .i64 (-9223372036854775808)]),v,.int .i64 way] W fun x w'=>∃ r,x=.returned (.int .i64 r)∧Below W.heap.size W w'∧R r) :
    Calls prog 84 #[(.agg #[.int .i64 53,.int .i64 (-1074),.int .i64 1024,.int .i64 9218868437227405312,.int .i64 (-9223372036854775808)]),.int .i64 a,.int .i64 b,.int .i64 way] w fun x w'=>∃ r,x=.returned (.int .i64 r)∧Below w.heap.size w w'∧R r:=by
  have hba:=ah w (.cells #[.int .i64 53,.int .i64 (-1074),.int .i64 1024,.int .i64 9218868437227405312,.int .i64 (-9223372036854775808)] 120)
  have q0:=heap_alloc_new w (.cells #[.int .i64 53,.int .i64 (-1074),.int .i64 1024,.int .i64 9218868437227405312,.int .i64 (-9223372036854775808)] 120)
  have a0:=af q0 0 rfl
  have a1:=af q0 1 rfl
  have a2:=af q0 2 rfl
  have a3:=af q0 3 rfl
  have a4:=af q0 4 rfl
  go_enter func84,ntmps84
  go_wp2_with fail
  have k5:K5 w.heap.size (w.alloc (.cells #[.int .i64 53,.int .i64 (-1074),.int .i64 1024,.int .i64 9218868437227405312,.int .i64 (-9223372036854775808)] 120)):=⟨a0,a1,a2,a3,a4⟩
  clear a0 a1 a2 a3 a4 q0
  generalize w.alloc (.cells #[.int .i64 53,.int .i64 (-1074),.int .i64 1024,.int .i64 9218868437227405312,.int .i64 (-9223372036854775808)] 120)=wx at hba k5 ⊢
  have hdr:Below wx.heap.size wx wx.drew:=(al wx).drew
  go_region_held3 (fun W=>W.cell? ⟨w.heap.size,0,none⟩=some (.int .i64 53)∧W.cell? ⟨w.heap.size,1,none⟩=some (.int .i64 (-1074))∧W.cell? ⟨w.heap.size,2,none⟩=some (.int .i64 1024)∧W.cell? ⟨w.heap.size,3,none⟩=some (.int .i64 9218868437227405312)∧W.cell? ⟨w.heap.size,4,none⟩=some (.int .i64 (-9223372036854775808)))
    (first|assumption|exact k5|exact K5.keeps k5 hdr|exact k51|exact k52|exact k53|exact k54)
    (first
      | (go_at_call 111;refine(CL _ _ hv3).mono ?_;rintro _ w4 ⟨r,rfl,hb4,hR⟩;have k54:=K5.keeps k53 hb4)
      | (go_at_call 112;refine(TI _ _ _ (hv1.keeps hb2) hv2).mono ?_;rintro _ w3 ⟨v3,rfl,hb3,hv3⟩;have k53:=K5.keeps k52 hb3)
      | (go_at_call 110;have _t:=hv1;refine(LB _).mono ?_;rintro _ w2 ⟨v2,rfl,hb2,hv2⟩;have k52:=K5.keeps k51 hb2)
      | (go_at_call 110; refine (LA _).mono ?_; rintro _ w1 ⟨v1,rfl,hb1,hv1⟩; have k51:=K5.keeps (K5.keeps k5 hdr) hb1))
  all_goals go_wp2
  all_goals go_ret
  all_goals exact⟨_,rfl,ac hba (ac hdr (ac hb1 (ac hb2 (ac hb3 hb4)))),hR⟩
def pH (k q:Nat) (n0 n1 n2 n3:Bool) (xo:Option Addr) (xn xc:Nat) (xe:Int) (W:World):Prop:=(W.cell? ⟨k,0,none⟩=some (.int .i64 53)∧W.cell? ⟨k,1,none⟩=some (.int .i64 (-1074))∧W.cell? ⟨k,2,none⟩=some (.int .i64 1024)∧W.cell? ⟨k,3,none⟩=some (.int .i64 9218868437227405312)∧W.cell? ⟨k,4,none⟩=some (.int .i64 (-9223372036854775808)))∧W.cell? ⟨q,0,none⟩=some (.bool n0)∧W.cell? ⟨q,1,none⟩=some (.bool n1)∧W.cell? ⟨q,2,none⟩=some (.bool n2)∧W.cell? ⟨q,3,none⟩=some (.bool n3)∧W.cell? ⟨q,4,none⟩=some (.slice xo xn xc)∧W.cell? ⟨q,5,none⟩=some (.int .i64 xe)
theorem pH.keeps {k q:Nat} {n0 n1 n2 n3:Bool} {xo:Option Addr} {xn xc:Nat} {xe:Int} {W W':World} (h:pH k q n0 n1 n2 n3 xo xn xc xe W) (hb:Below W.heap.size W W'):pH k q n0 n1 n2 n3 xo xn xc xe W':=by
 obtain⟨⟨h0,h1,h2,h3,h4⟩,g0,g1,g2,g3,g4,g5⟩:=h
 exact⟨⟨aX h0 hb,aX h1 hb,aX h2 hb,aX h3 hb,aX h4 hb⟩,aX g0 hb,aX g1 hb,aX g2 hb,aX g3 hb,aX g4 hb,aX g5 hb⟩
theorem BQ {w:World} {xg:Bool} {xo:Option Addr} {xn xc:Nat} {xe V:Int} (hx:aM w (.agg #[.bool xg,.slice xo xn xc,.int .i64 xe]) V) :
  ∃ yg,aM w (.agg #[.bool yg,.slice xo xn xc,.int .i64 xe]) (-V)∧∀ W,Calls prog 91 #[.agg #[.bool xg,.slice xo xn xc,.int .i64 xe]] W fun r w'=>r=.returned (.agg #[.bool yg,.slice xo xn xc,.int .i64 xe])∧Below W.heap.size W w':=by
 obtain⟨zx,mx⟩:=gE hx
 refine⟨if xn=0 then xg else !xg,?_,fun W=>pl ⟨xg,xo,xn,xc,fun _=>0,xe⟩ W mx⟩
 obtain⟨ng,s,m,e',h1,hy,hN⟩:=hx
 simp only[Value.agg.injEq,Array.mk.injEq,List.cons.injEq,Value.bool.injEq,Value.int.injEq,true_and,and_true] at h1
 obtain⟨rfl,rfl,rfl⟩:=h1
 by_cases h0:xn=0
 ·rw[if_pos h0]
  have hV:=zx.1 h0
  subst hV
  exact⟨_,_,m,_,rfl,hy,hN⟩
 ·rw[if_neg h0]
  have hm:m≠0:=fun q=>h0 (zx.2 (hy.eq_zero.2 q))
  exact⟨_,_,m,_,rfl,hy.neg (by have:=hy.nonneg;omega),hN⟩
theorem yQ {way a b:Int} {an aa ai bn ba bi:Bool} {aV bV:Int} {R:Int->Prop} (w:World)
    (LA:∀ W,Calls prog 110 #[(.agg #[.int .i64 53,.int .i64 (-1074),.int .i64 1024,.int .i64 9218868437227405312,.int .i64 (-9223372036854775808)]),.int .i64 a] W fun e w'=>∃ v,e=.returned v∧Below W.heap.size W w'∧Pt w' an aa ai aV v)
    (LB:∀ W,Calls prog 110 #[(.agg #[.int .i64 53,.int .i64 (-1074),.int .i64 1024,.int .i64 9218868437227405312,.int .i64 (-9223372036854775808)]),.int .i64 b] W fun e w'=>∃ v,e=.returned v∧Below W.heap.size W w'∧Pt w' bn ba bi bV v)
    (PL:∀ W p q,Pt W an aa ai aV p->Pt W (!bn) ba bi (-bV) q->Calls prog 109 #[(.agg #[.int .i64 53,.int .i64 (-1074),.int .i64 1024,.int .i64 9218868437227405312,.int .i64 (-9223372036854775808)]),p,q,.int .i64 way] W fun x w'=>∃ r,x=.returned (.int .i64 r)∧Below W.heap.size W w'∧R r) :
    Calls prog 85 #[(.agg #[.int .i64 53,.int .i64 (-1074),.int .i64 1024,.int .i64 9218868437227405312,.int .i64 (-9223372036854775808)]),.int .i64 a,.int .i64 b,.int .i64 way] w fun x w'=>∃ r,x=.returned (.int .i64 r)∧Below w.heap.size w w'∧R r:=by
  have hba:=ah w (.cells #[.int .i64 53,.int .i64 (-1074),.int .i64 1024,.int .i64 9218868437227405312,.int .i64 (-9223372036854775808)] 120)
  have q0:=heap_alloc_new w (.cells #[.int .i64 53,.int .i64 (-1074),.int .i64 1024,.int .i64 9218868437227405312,.int .i64 (-9223372036854775808)] 120)
  have a0:=af q0 0 rfl
  have a1:=af q0 1 rfl
  have a2:=af q0 2 rfl
  have a3:=af q0 3 rfl
  have a4:=af q0 4 rfl
  go_enter func85,ntmps85
  go_wp2_with fail
  refine(LB _).mono ?_
  rintro _ w1 ⟨v,rfl,hb1,hv⟩
  obtain⟨xg,xo,xn,xc,xe,rfl,hx⟩:=hv
  obtain⟨zx,mx⟩:=gE hx
  have p0:=(hb1.block _ (aGe q0).1).trans q0
  have hbw:=ac hba hb1
  obtain⟨yg,hy,CN⟩:=BQ hx
  clear a0 a1 a2 a3 a4 q0 hba hb1 hx zx
  go_wp2_with fail
  refine(CN _).mono ?_
  rintro _ w2 ⟨rfl,hb2⟩
  have hq1:=(hb2.block w1.heap.size (by rw[aC];omega)).trans (aA w1 (.cells #[.bool (!bn),.bool ba,.bool bi,.bool xg,.slice xo xn xc,.int .i64 xe] 147))
  have hk1:=(hb2.block w.heap.size (by rw[aC];have:=(aGe p0).1;omega)).trans (ap (.cells #[.bool (!bn),.bool ba,.bool bi,.bool xg,.slice xo xn xc,.int .i64 xe] 147) p0)
  have hne:w1.heap.size≠w.heap.size:=by have:=(aGe p0).1;omega
  have hbw2:=ac (ah w1 (.cells #[.bool (!bn),.bool ba,.bool bi,.bool xg,.slice xo xn xc,.int .i64 xe] 147)) hb2
  have f3:=ar hq1 3
  have f4:=ar hq1 4
  have f5:=ar hq1 5
  have y0:=af hq1 0 rfl
  have y1:=af hq1 1 rfl
  have y2:=af hq1 2 rfl
  have y3:=af hq1 3 rfl
  have y4:=af hq1 4 rfl
  have y5:=af hq1 5 rfl
  have t3:=aq hq1 3 (.bool yg)
  have t4:=aq t3 4 (.slice xo xn xc)
  have t5:=aq t4 5 (.int .i64 xe)
  have u3:=(heap_setCell_other w2 ⟨w1.heap.size,3,none⟩ w.heap.size (.bool yg) (Ne.symm hne)).trans hk1
  have u4:=(heap_setCell_other _ ⟨w1.heap.size,4,none⟩ w.heap.size (.slice xo xn xc) (Ne.symm hne)).trans u3
  have u5:=(heap_setCell_other _ ⟨w1.heap.size,5,none⟩ w.heap.size (.int .i64 xe) (Ne.symm hne)).trans u4
  have hbs:Below w1.heap.size w1 (((w2.setCell ⟨w1.heap.size,3,none⟩ (.bool yg)).setCell ⟨w1.heap.size,4,none⟩ (.slice xo xn xc)).setCell ⟨w1.heap.size,5,none⟩ (.int .i64 xe)):=aU hbw2 (Nat.le_refl _) _ _ _
  have kk:pH w.heap.size w1.heap.size (!bn) ba bi yg xo xn xc xe (((w2.setCell ⟨w1.heap.size,3,none⟩ (.bool yg)).setCell ⟨w1.heap.size,4,none⟩ (.slice xo xn xc)).setCell ⟨w1.heap.size,5,none⟩ (.int .i64 xe)) :=
    ⟨⟨af u5 0 rfl,af u5 1 rfl,af u5 2 rfl,af u5 3 rfl,af u5 4 rfl⟩,af t5 0 (by simp),af t5 1 (by simp),af t5 2 (by simp),af t5 3 (by simp),af t5 4 (by simp),af t5 5 (by simp)⟩
  clear t3 t4 t5 u3 u4 u5 hb2 CN LB
  go_wp2_with fail
  clear f3 f4 f5 y0 y1 y2 y3 y4 y5 hq1 hk1 p0
  generalize ((w2.setCell ⟨w1.heap.size,3,none⟩ (.bool yg)).setCell ⟨w1.heap.size,4,none⟩ (.slice xo xn xc)).setCell ⟨w1.heap.size,5,none⟩ (.int .i64 xe)=wx at hbs kk ⊢
  have hdr:Below wx.heap.size wx wx.drew:=(al wx).drew
  have PQ:∀ W,Below w1.heap.size w1 W->Pt W (!bn) ba bi (-bV) (.agg #[.bool (!bn),.bool ba,.bool bi,.bool yg,.slice xo xn xc,.int .i64 xe]):=fun W hW=>⟨_,_,_,_,_,rfl,hy.keeps hW⟩
  go_region_held3 (fun W=>(W.cell? ⟨w.heap.size,0,none⟩=some (.int .i64 53)∧W.cell? ⟨w.heap.size,1,none⟩=some (.int .i64 (-1074))∧W.cell? ⟨w.heap.size,2,none⟩=some (.int .i64 1024)∧W.cell? ⟨w.heap.size,3,none⟩=some (.int .i64 9218868437227405312)∧W.cell? ⟨w.heap.size,4,none⟩=some (.int .i64 (-9223372036854775808)))∧W.cell? ⟨w1.heap.size,0,none⟩=some (.bool (!bn))∧W.cell? ⟨w1.heap.size,1,none⟩=some (.bool ba)∧W.cell? ⟨w1.heap.size,2,none⟩=some (.bool bi)∧W.cell? ⟨w1.heap.size,3,none⟩=some (.bool yg)∧W.cell? ⟨w1.heap.size,4,none⟩=some (.slice xo xn xc)∧W.cell? ⟨w1.heap.size,5,none⟩=some (.int .i64 xe))
    (first|assumption|exact kk|exact pH.keeps kk hdr|exact kk1|exact kk2)
    (first
      | (go_at_call 109;refine(PL _ _ _ hv1 (PQ _ (ac hbs (ac hdr hb3)))).mono ?_;rintro _ w4 ⟨r,rfl,hb4,hR⟩;have kk2:=pH.keeps kk1 hb4)
      | (go_at_call 110; refine (LA _).mono ?_; rintro _ w3 ⟨v1,rfl,hb3,hv1⟩; have kk1:=pH.keeps (pH.keeps kk hdr) hb3))
  all_goals go_wp2
  all_goals go_ret
  all_goals exact⟨_,rfl,ac hbw (ac hbs (ac hdr (ac hb3 hb4))),hR⟩
def pI (p:Int) (pn pa pi:Bool) (V:Int):Prop:=pa=decide (aR p=4)∧(aR p≠4->pn=decide (p<0)∧pi=decide (aR p=3)∧V=am p)
theorem pI.self (p:Int):pI p (decide (p<0)) (decide (aR p=4)) (decide (aR p=3)) (am p):=⟨rfl,fun _=>⟨rfl,rfl,rfl⟩⟩
theorem iT {p:Int} (hp:ax p):aR p=3↔rg p=9218868437227405312:=by
 have h1:=(ek hp).1
 have h2:=dU hp
 constructor
 ·intro h
  have:aF p≠true:=fun q=>by have:=tY q;omega
  have h3:¬ rg p<9218868437227405312:=fun q=>this (h2.2 q)
  have h4:¬ 9218868437227405312<rg p:=fun q=>by have:=h1.2 q;omega
  omega
 ·intro h
  have:aF p≠true:=fun q=>by have:=h2.1 q;omega
  rcases (iS this).1 with q|q
  ·exact q
  ·have:=h1.1 q;omega
theorem mO {p:Int} (h:rg p=9218868437227405312):p=aP (decide (p<0)) 9218868437227405312:=by
 unfold rg at h
 unfold aP
 by_cases h0:p<0
 ·rw[if_pos h0] at h;rw[decide_eq_true h0,if_pos rfl];omega
 ·rw[if_neg h0] at h;rw[decide_eq_false h0,if_neg (by decide)];omega
theorem pJ {p:Int} (h:am p≠0):decide (p<0)=decide (am p<0):=by
 have hp:aF p=true:=by
  by_cases q:aF p=true
  ·exact q
  ·exact absurd (iS q).2 h
 have i0:=(gm hp).1
 unfold am at h ⊢
 unfold dV at h ⊢
 rw[hp,Bool.true_and] at h ⊢
 have hpw:=ct (bM p)
 have hm:0<bL p:=by
  rcases Int.lt_or_eq_of_le i0 with q|q
  ·exact q
  ·rw[<- q] at h
   exfalso
   apply h
   unfold sg
   split<;>simp
 by_cases c:p<0
 ·rw[decide_eq_true c]
  symm
  apply decide_eq_true
  show -(bL p)*pw (bM p)<0
  exact Int.mul_neg_of_neg_of_pos (by omega) hpw
 ·rw[decide_eq_false c]
  symm
  apply decide_eq_false
  show ¬ bL p*pw (bM p)<0
  have:=Int.mul_pos hm hpw
  omega
theorem si {S r:Int} (h:S≠0) (hr:pG 0 (decide (S<0)) S.natAbs r):r=de S:=by
 obtain⟨A,r0,left,h1,h2,h3⟩:=eH h
 have hA:A=(S.natAbs:Int):=by
  unfold sg at h1
  split at h1
  ·rename_i c
   have:=of_decide_eq_true c
   omega
  ·rename_i c
   have:¬ S<0:=fun q=>c (decide_eq_true q)
   omega
 subst hA
 exact hr.unique ⟨r0,left,h2,h3⟩
theorem sj {p q:Int} {pn pa pi qn qa qi:Bool} {Vp Vq r:Int} (rp:ax p) (rq:ax q) (hp:pI p pn pa pi Vp) (hq:pI q qn qa qi Vq) (h:zH 0 pn pa pi Vp qn qa qi Vq r):r=aE p q:=by
 obtain⟨p1,p2⟩:=hp
 obtain⟨q1,q2⟩:=hq
 unfold zH at h
 unfold aE
 by_cases c4:aR p=4∨aR q=4
 ·rw[if_pos c4]
  have hh:(pa||qa)=true:=by
   rcases c4 with c|c
   ·rw[p1,decide_eq_true c];rfl
   ·rw[q1,decide_eq_true c,Bool.or_true]
  rw[if_pos (by rw[hh];rfl)] at h
  rw[h]
  unfold mc
  rw[if_pos (by rw[hh];rfl)]
 ·have cp:aR p≠4:=fun x=>c4 (.inl x)
  have cq:aR q≠4:=fun x=>c4 (.inr x)
  obtain⟨e1,e2,e3⟩:=p2 cp
  obtain⟨f1,f2,f3⟩:=q2 cq
  rw[decide_eq_false cp] at p1
  rw[decide_eq_false cq] at q1
  subst p1 q1 e1 e2 e3 f1 f2 f3
  rw[if_neg c4]
  have i1:=iT rp
  have i2:=iT rq
  by_cases ip:rg p=9218868437227405312
  ·rw[if_pos ip]
   rw[decide_eq_true (i1.2 ip)] at h
   simp only[Bool.false_or,Bool.true_or,if_true] at h
   rw[h]
   unfold mc
   simp only[Bool.false_or,Bool.true_and,if_true]
   by_cases iq:rg q=9218868437227405312
   ·rw[decide_eq_true (i2.2 iq),Bool.true_and]
    by_cases hs:decide (p<0)=decide (q<0)
    ·have hb:(decide (p<0) != decide (q<0))=false:=by rw[hs];simp
     rw[hb,if_neg (by decide),if_neg (fun x=>x.2 hs)]
     exact(mO ip).symm
    ·have hb:(decide (p<0) != decide (q<0))=true:=by rw[bne_iff_ne];exact hs
     rw[hb,if_pos rfl,if_pos ⟨iq,hs⟩]
   ·rw[decide_eq_false (fun x=>iq (i2.1 x)),Bool.false_and,if_neg (by decide),if_neg (fun x=>iq x.1)]
    exact(mO ip).symm
  ·rw[if_neg ip]
   have n1:decide (aR p=3)=false:=decide_eq_false (fun x=>ip (i1.1 x))
   rw[n1] at h
   by_cases iq:rg q=9218868437227405312
   ·rw[if_pos iq]
    rw[decide_eq_true (i2.2 iq)] at h
    simp only[Bool.false_or,if_true] at h
    rw[h]
    unfold mc
    simp only[Bool.false_or,Bool.false_and,Bool.false_eq_true,if_false]
    exact(mO iq).symm
   ·rw[if_neg iq]
    have n2:decide (aR q=3)=false:=decide_eq_false (fun x=>iq (i2.1 x))
    rw[n2] at h
    simp only[Bool.false_or,Bool.false_eq_true,if_false] at h
    obtain⟨s0,s1⟩:=h
    by_cases hS:am p+am q=0
    ·rw[if_pos hS,s0 hS]
     congr 1
     by_cases hV:am p=0∧decide (p<0)=decide (q<0)
     ·rw[if_pos hV,<- hV.2,Bool.and_self]
     ·rw[if_neg hV]
      by_cases v0:am p=0
      ·have hs:decide (p<0)≠decide (q<0):=fun x=>hV ⟨v0,x⟩
       cases hx:decide (p<0)<;>cases hy:decide (q<0)<;>simp_all
      ·have v1:am q≠0:=by omega
       rw[pJ v0,pJ v1]
       by_cases c:am p<0
       ·rw[decide_eq_true c,decide_eq_false (show ¬ am q<0 by omega)];rfl
       ·rw[decide_eq_false c];rfl
    ·rw[if_neg hS]
     exact si hS (s1 hS)
theorem AO {q:Int} (hq:ax q):pI (neg q) (!decide (q<0)) (decide (aR q=4)) (decide (aR q=3)) (-am q):=by
 by_cases c4:aR q=4
 ·refine⟨?_,fun h=>?_⟩
  ·have:aR (neg q)=4:=by unfold neg;rw[if_pos c4];decide
   rw[decide_eq_true c4,decide_eq_true this]
  ·exfalso
   apply h
   unfold neg
   rw[if_pos c4]
   decide
 ·obtain⟨s1,s2,s3⟩:=yx hq c4
  refine⟨by rw[decide_eq_false c4,decide_eq_false s3],fun _=>⟨s1.symm,?_,?_⟩⟩
  ·have h1:=iT hq
   have h2:=iT (eg hq)
   rw[s2] at h2
   congr 1
   apply propext
   rw[h1,h2]
  ·by_cases hp:aF q=true
   ·obtain⟨n1,n2,n3⟩:=gz hq hp
    rw[cd n1 n2,cd hq hp,n3,Int.neg_mul]
   ·have hp2:aF (neg q)≠true:=fun x=>hp ((dU hq).2 (by have:=(dU (eg hq)).1 x;omega))
    rw[(iS hp).2,(iS hp2).2]
    rfl
def wZ (pa pi:Bool) (Vp:Int) (qa qi:Bool) (Vq:Int) (na ni:Bool) (V:Int):Prop :=
 if pa||qa then na=true∧ni=false∧V=0
 else if pi||qi then na=((pi&&!qi&&decide (Vq=0))||(qi&&!pi&&decide (Vp=0)))∧ni=!na∧V=0
 else na=false∧ni=false∧V*2^4194304=Vp*Vq
theorem xf {p:Int} (hp:ax p) (h:aF p=true):am p=0↔rg p=0:=by
 have h0:=(ek hp).2
 have i0:=(gm h).1
 have hpw:=ct (bM p)
 have bl:am p=0↔bL p=0:=by
  unfold am
  constructor
  ·intro q
   rcases Int.mul_eq_zero.1 q with q|q
   ·unfold sg at q;split at q<;>omega
   ·omega
  ·intro q;rw[q];unfold sg;split<;>simp
 rw[bl,<- h0]
 unfold aF at h
 simp at h
 unfold bL aR
 rw[if_neg h,if_neg h]
 by_cases c:bZ p=0
 ·rw[if_pos c,if_pos c]
  by_cases d:cx p=0
  ·rw[if_pos d];simp[d]
  ·rw[if_neg d];simp[d]
 ·rw[if_neg c,if_neg c]
  have:0<=cx p:=by unfold cx;omega
  constructor<;>intro q<;>omega
theorem yR {p q:Int} {na ni:Bool} {V r:Int} (rp:ax p) (rq:ax q) (hT:wZ (decide (aR p=4)) (decide (aR p=3)) (am p) (decide (aR q=4)) (decide (aR q=3)) (am q) na ni V) (h:nZ 0 (decide (p<0) != decide (q<0)) na ni V r):r=av p q:=by
  unfold wZ at hT
  unfold nZ at h
  unfold av
  by_cases c4:aR p=4∨aR q=4
  · rw[if_pos c4]
    rw[if_pos (by rcases c4 with c|c<;>simp[c])] at hT
    rw[hT.1,if_pos rfl] at h
    exact h
  · have cp:aR p≠4:=fun x=>c4 (.inl x)
    have cq:aR q≠4:=fun x=>c4 (.inr x)
    rw[if_neg c4]
    rw[if_neg (by simp[cp,cq])] at hT
    have i1:=iT rp
    have i2:=iT rq
    by_cases ci:rg p=9218868437227405312∨rg q=9218868437227405312
    · rw[if_pos ci]
      rw[if_pos (by rcases ci with c|c<;>simp[i1,i2,c])] at hT
      obtain⟨t1,t2,t3⟩:=hT
      have hz:((decide (aR p=3)&&!decide (aR q=3)&&decide (am q=0))||(decide (aR q=3)&&!decide (aR p=3)&&decide (am p=0)))=decide (rg p=0∨rg q=0):=by
        have zz:∀ {x:Int},ax x->aR x≠4->rg x≠9218868437227405312->(am x=0 ↔ rg x=0):=fun {x} rx c h=>xf rx ((dU rx).2 (by
          have:=(ek rx).1
          rcases Int.lt_or_le 9218868437227405312 (rg x) with g|g
          · exact absurd (this.2 g) c
          · omega))
        by_cases a:rg p=9218868437227405312
        · by_cases b:rg q=9218868437227405312
          · rw[decide_eq_true (i1.2 a),decide_eq_true (i2.2 b)]
            symm
            rw[Bool.not_true,Bool.and_false,Bool.false_and,Bool.false_and,Bool.or_self]
            apply decide_eq_false
            omega
          · rw[decide_eq_true (i1.2 a),decide_eq_false (fun x=>b (i2.1 x)),Bool.not_false,Bool.true_and,Bool.false_and,Bool.false_and,Bool.or_false,Bool.true_and]
            congr 1
            apply propext
            rw[zz rq cq b]
            omega
        · have b:rg q=9218868437227405312:=ci.resolve_left a
          rw[decide_eq_false (fun x=>a (i1.1 x)),decide_eq_true (i2.2 b),Bool.not_false,Bool.true_and,Bool.false_and,Bool.false_and,Bool.false_or,Bool.true_and]
          congr 1
          apply propext
          rw[zz rp cp a]
          omega
      rw[hz] at t1
      by_cases z:rg p=0∨rg q=0
      · rw[if_pos z]
        rw[decide_eq_true z] at t1
        rw[t1,if_pos rfl] at h
        exact h
      · rw[if_neg z]
        rw[decide_eq_false z] at t1
        rw[t2,t1,if_neg (by decide),if_pos (by rfl)] at h
        exact h
    · rw[if_neg ci]
      have a:¬ aR p=3:=fun x=>ci (.inl (i1.1 x))
      have b:¬ aR q=3:=fun x=>ci (.inr (i2.1 x))
      rw[if_neg (by simp[a,b])] at hT
      obtain⟨t1,t2,t3⟩:=hT
      rw[t1,t2,if_neg (by decide),if_neg (by decide)] at h
      have hV:V=am p*am q/2^4194304:=by
        rw[<- t3,Int.mul_ediv_cancel _ (Int.ne_of_gt (aJ _))]
      have hf:dH p q=sg (fE p q) V:=by unfold dH;rw[<- hV]
      rw[hf]
      have hx:(decide (p<0) != decide (q<0))=fE p q:=rfl
      rw[hx] at h
      clear hx hf
      generalize fE p q=x at *
      have hsg:sg x (sg x V)=V:=by unfold sg;cases x<;>simp
      rw[hsg]
      have h0:sg x V=0↔V=0:=by unfold sg;cases x<;>simp
      by_cases v0:V=0
      · rw[if_pos (h0.2 v0)]
        rw[if_pos v0] at h
        exact h
      · rw[if_neg (fun q=>v0 (h0.1 q))]
        rw[if_neg v0] at h
        exact si v0 h
theorem xh {w:World} {pn pa pi qn qa qi:Bool} {Vp Vq:Int} {p q:Value} (hp:Pt w pn pa pi Vp p) (hq:Pt w qn qa qi Vq q) (bp:Bd 4000 Vp) (bq:Bd 4000 Vq) :
  Calls prog 112 #[p,q] w fun x w'=>∃ v,x=.returned v∧Below w.heap.size w w'∧∃ na ni V,Pt w' (pn != qn) na ni V v∧wZ pa pi Vp qa qi Vq na ni V∧Bd 8000 V:=by
 obtain⟨xg,xo,xn,xc,xe,rfl,hx⟩:=hp
 obtain⟨yg,yo,yn,yc,ye,rfl,hy⟩:=hq
 have b0:Bd 8000 0:=⟨0,by simp,by have:=aJ (2*8000);omega,aJ _⟩
 unfold wZ
 by_cases h:(pa||qa)=true
 ·refine(uU pn pa pi qn qa qi xg yg xo yo xn xc yn yc xe ye w h).mono ?_
  rintro x w' ⟨v,rfl,hb,hP⟩
  exact⟨v,rfl,hb,_,_,_,hP,by rw[if_pos h];exact⟨rfl,rfl,rfl⟩,b0⟩
 ·have h2:pa=false∧qa=false:=by cases pa<;>cases qa<;>simp_all
  obtain⟨rfl,rfl⟩:=h2
  obtain⟨zx,mx⟩:=gE hx
  obtain⟨zy,my⟩:=gE hy
  by_cases h3:(pi||qi)=true
  ·refine(uV pn pi qn qi xg yg xo yo xn xc yn yc xe ye w mx my h3).mono ?_
   rintro x w' ⟨v,rfl,hb,hP⟩
   have e1:decide (xn=0)=decide (Vp=0):=by congr 1;exact propext zx
   have e2:decide (yn=0)=decide (Vq=0):=by congr 1;exact propext zy
   rw[e1,e2] at hP
   exact⟨v,rfl,hb,_,_,_,hP,by rw[if_neg h,if_pos h3];exact⟨rfl,rfl,rfl⟩,b0⟩
  ·have h4:pi=false∧qi=false:=by cases pi<;>cases qi<;>simp_all
   obtain⟨rfl,rfl⟩:=h4
   obtain⟨d,hR,ok,hV⟩:=hx.open2 (bp.ok (by decide))
   obtain⟨d',hR',ok',hV'⟩:=hy.open2 (bq.ok (by decide))
   have sx:=cD ok
   have sy:=cD ok'
   have hm:=lS (x:=⟨xg,xo,xn,xc,d,xe⟩) (y:=⟨yg,yo,yn,yc,d',ye⟩) (by have:=sx.2.2.1;simp only at this ⊢;omega) (by have:=sy.2.2.1;simp only at this ⊢;omega)
   rw[hV,hV'] at hm
   refine(uS pn qn ⟨xg,xo,xn,xc,d,xe⟩ ⟨yg,yo,yn,yc,d',ye⟩ w hR hR' sx sy).mono ?_
   rintro x w' ⟨v,rfl,hb,hP⟩
   exact⟨v,rfl,hb,_,_,_,hP,by rw[if_neg h,if_neg h3];exact⟨rfl,rfl,hm⟩,bp.mul bq hm (by decide)⟩
theorem sW (a b:Int) (ha:ax a) (hb:ax b) (w:World) :
  Calls prog 83 #[cl,.int .i64 a,.int .i64 b,.int .i64 0] w fun x w'=>x=.returned (.int .i64 (aE a b))∧Below w.heap.size w w':=by
 refine(yO (R:=fun r=>r=aE a b) w (fun W=>gD a W ha) (fun W=>gD b W hb) (fun W p q hp hq=>?_)).mono ?_
 ·refine(sf 0 (by decide) hp hq ((ie a).up (show 4000<=9000 by decide) (by decide)) ((ie b).up (show 4000<=9000 by decide) (by decide))).mono ?_
  rintro x w' ⟨r,rfl,hb1,hr⟩
  exact⟨r,rfl,hb1,sj ha hb (pI.self a) (pI.self b) hr⟩
 ·rintro x w' ⟨r,rfl,hb1,rfl⟩
  exact⟨rfl,hb1⟩
theorem sY (a b:Int) (ha:ax a) (hb:ax b) (w:World) :
  Calls prog 85 #[cl,.int .i64 a,.int .i64 b,.int .i64 0] w fun x w'=>x=.returned (.int .i64 (aE a (neg b)))∧Below w.heap.size w w':=by
 refine(yQ (R:=fun r=>r=aE a (neg b)) w (fun W=>gD a W ha) (fun W=>gD b W hb) (fun W p q hp hq=>?_)).mono ?_
 ·refine(sf 0 (by decide) hp hq ((ie a).up (show 4000<=9000 by decide) (by decide)) ((ie b).up (show 4000<=9000 by decide) (by decide)).neg).mono ?_
  rintro x w' ⟨r,rfl,hb1,hr⟩
  exact⟨r,rfl,hb1,sj ha (eg hb) (pI.self a) (AO hb) hr⟩
 ·rintro x w' ⟨r,rfl,hb1,rfl⟩
  exact⟨rfl,hb1⟩
theorem sZ (a b:Int) (ha:ax a) (hb:ax b) (w:World) :
  Calls prog 84 #[cl,.int .i64 a,.int .i64 b,.int .i64 0] w fun x w'=>x=.returned (.int .i64 (av a b))∧Below w.heap.size w w':=by
 refine(yP (R:=fun r=>r=av a b) (fun W v=>∃ na ni V,Pt W (decide (a<0) != decide (b<0)) na ni V v∧wZ (decide (aR a=4)) (decide (aR a=3)) (am a) (decide (aR b=4)) (decide (aR b=3)) (am b) na ni V∧Bd 8000 V) ?_ w (fun W=>gD a W ha) (fun W=>gD b W hb) (fun W p q hp hq=>xh hp hq (ie a) (ie b)) (fun W v hv=>?_)).mono ?_
 ·rintro W W' v ⟨na,ni,V,h1,h2⟩ hb1
  exact⟨na,ni,V,h1.keeps hb1,h2⟩
 ·obtain⟨na,ni,V,⟨xg,xo,xn,xc,xe,rfl,hx⟩,h2,h3⟩:=hv
  refine(uR 0 (by decide) _ na ni xg xo xn xc xe V W hx (h3.ok (by decide))).mono ?_
  rintro x w' ⟨r,rfl,hb1,hr⟩
  exact⟨r,rfl,hb1,yR ha hb h2 hr⟩
 ·rintro x w' ⟨r,rfl,hb1,rfl⟩
  exact⟨rfl,hb1⟩
theorem mP (w:World):Calls prog 82 #[] w fun x w'=>x=.returned cl∧Below w.heap.size w w':=by
 unfold cl
 go_enter func82,ntmps82
 go_wp2
 refine bodyPost_ret (v:=.agg #[.int .i64 53,.int .i64 (-1074),.int .i64 1024,.int .i64 9218868437227405312,.int .i64 (-9223372036854775808)]) (by simp[results,results82,go_sem]) rfl ⟨rfl,?_⟩
 exact ah _ _
theorem dC (a b:Int) (ha:ax a) (hb:ax b) (w:World) :
  Calls prog 53 #[.int .i64 a,.int .i64 b] w fun x w'=>x=.returned (.int .i64 (aE a b))∧Below w.heap.size w w':=by
 have C1:=fun W=>mP W
 have C2:=fun W=>sW a b ha hb W
 generalize aE a b=r at *
 unfold cl at *
 go_enter func53,ntmps53
 go_wp2_with fail
 refine(C1 _).mono ?_
 rintro _ w1 ⟨rfl,hb1⟩
 go_wp2_with fail
 refine(C2 _).mono ?_
 rintro _ w2 ⟨rfl,hb2⟩
 go_wp2
 go_ret
 exact⟨rfl,ac hb1 hb2⟩
theorem fN (a b:Int) (ha:ax a) (hb:ax b) (w:World) :
  Calls prog 56 #[.int .i64 a,.int .i64 b] w fun x w'=>x=.returned (.int .i64 (aE a (neg b)))∧Below w.heap.size w w':=by
 have C1:=fun W=>mP W
 have C2:=fun W=>sY a b ha hb W
 generalize aE a (neg b)=r at *
 unfold cl at *
 go_enter func56,ntmps56
 go_wp2_with fail
 refine(C1 _).mono ?_
 rintro _ w1 ⟨rfl,hb1⟩
 go_wp2_with fail
 refine(C2 _).mono ?_
 rintro _ w2 ⟨rfl,hb2⟩
 go_wp2
 go_ret
 exact⟨rfl,ac hb1 hb2⟩
theorem bE (a b:Int) (ha:ax a) (hb:ax b) (w:World) :
  Calls prog 54 #[.int .i64 a,.int .i64 b] w fun x w'=>x=.returned (.int .i64 (av a b))∧Below w.heap.size w w':=by
 have C1:=fun W=>mP W
 have C2:=fun W=>sZ a b ha hb W
 generalize av a b=r at *
 unfold cl at *
 go_enter func54,ntmps54
 go_wp2_with fail
 refine(C1 _).mono ?_
 rintro _ w1 ⟨rfl,hb1⟩
 go_wp2_with fail
 refine(C2 _).mono ?_
 rintro _ w2 ⟨rfl,hb2⟩
 go_wp2
 go_ret
 exact⟨rfl,ac hb1 hb2⟩
end Go.Proofs.YtcklaogdjpbagaaGreatDoor
