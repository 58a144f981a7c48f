/- Parts of the proof. -/
import Derived.Test.YtjjihmnbdeeedaaGreatDoorMa23
import Derived.Test.YtjjihmnbdeeedaaGreatDoorMa24
import Derived.Test.YtjjihmnbdeeedaaGreatDoorMa3
import Derived.Test.YtjjihmnbdeeedaaGreatDoorMa1
import Derived.Test.YtjjihmnbdeeedaaGreatDoorMa10
import Derived.Test.YtjjihmnbdeeedaaGreatDoorMa4
import Derived.Test.YtjjihmnbdeeedaaGreatDoorMa7
import Derived.Test.YtjjihmnbdeeedaaGreatDoorMa14
import Derived.Test.YtjjihmnbdeeedaaGreatDoorMa5
import Derived.Deep.RegionHeld3
set_option maxRecDepth 100000
set_option maxHeartbeats 8000000
set_option linter.unusedVariables false
set_option linter.unusedSimpArgs false
namespace Go.Proofs.YtjjihmnbdeeedaaGreatDoor
open Go Go.Proofs.Tryz Go.RowKit Go.Proofs.YtjjihmnbdeeedaaGreatDoor.M
theorem KW (way:Int) (hw:0<=way∧way<=3) (ng:Bool) (ao:Option Addr) (n cap:Nat) (d:Nat->Int) (exp:Int) (more:Bool) (w:World) (h:aU w ao n cap d) (nb:Nat) (E lw:Int) (K:Nat) (hf rs:Bool) (l:Int) (F:Fj ao n cap d exp more nb E lw K hf rs l) :
  Calls prog 234 #[eC,.bool ng,.slice ao n cap,G6 exp,.bool more,G6 way] w fun e w'=>e=.returned (.tuple #[G6 (eK way ng hf rs K E).1,.bool (eK way ng hf rs K E).2])∧Below w.heap.size w w':=by
 have h4:way=0∨way=1∨way=2∨way=3:=by omega
 cases ng
 ·exact Rr way h4 ao n cap d exp more w h nb E lw K hf rs l F
 ·exact Rs way h4 ao n cap d exp more w h nb E lw K hf rs l F
theorem NP (ao:Option Addr) (n cap:Nat) (d:Nat->Int) (exp:Int) (more:Bool) (hd:cT d n) (hn:n<=10000) (h0:0<n) (he:-1300000<=exp∧exp<=1300000) (hc:more=true->0<cE 53 (-1074) (val d n).toNat exp-exp) :
  ∃ nb l,Fj ao n cap d exp more nb (cE 53 (-1074) (val d n).toNat exp) (cE 53 (-1074) (val d n).toNat exp-exp) (rU (val d n).toNat (cE 53 (-1074) (val d n).toNat exp-exp)) (cH (val d n).toNat (cE 53 (-1074) (val d n).toNat exp-exp)) (cR (val d n).toNat more (cE 53 (-1074) (val d n).toNat exp-exp)) l:=by
 have hV:=bL hd.1
 have hpos:0<val d n:=by
  have h1:=ik hd.1 h0 hd.2
  have:=dt (n-1)
  omega
 obtain⟨M,hM⟩:∃ M:Nat,val d n=M:=⟨(val d n).toNat,by omega⟩
 have hM0:M≠0:=by omega
 have hMt:(val d n).toNat=M:=by omega
 rw[hMt] at hc ⊢
 obtain⟨b0,b1,b2⟩:=rO hM0
 have hbl:aQ (M:Int)<=300000:=by
  refine Nat.le_trans (fO (k:=30*n) ?_) (by omega)
  rw[<- ft,<- hM]
  exact dF hd.1
 have hU:=(DU (sz:=53) (lowE:=-1074) (exp:=exp) (by decide) hM0).1
 rw[show(2:Nat)^(53:Int).toNat=9007199254740992 by decide] at hU
 have hE:cE 53 (-1074) M exp=max ((aQ (M:Int):Int)+exp-53) (-1074):=rfl
 obtain⟨l,hl⟩:∃ l,qJ (M:Int) l:=by
  obtain⟨k,hk⟩:=mq (M:=(M:Int)) (by omega)
  exact⟨k,.inr ⟨k,rfl,hk⟩⟩
 have hl0:0<=l∧l<=300000:=by
  rcases hl with⟨h,_⟩|⟨k,rfl,m,hk⟩
  ·omega
  ·refine⟨by omega,?_⟩
   have hm:0<=m:=by
    rcases Int.lt_or_le m 0 with q|q
    ·have:=Int.mul_neg_of_neg_of_pos (show 2*m+1<0 by omega) (aR k)
     omega
    ·exact q
   have h1:(2:Int)^k<=M:=by
    rw[hk]
    have:=Int.mul_le_mul_of_nonneg_right (show 1<=2*m+1 by omega) (Int.le_of_lt (aR k))
    omega
   have:=wC h1
   omega
 refine⟨aQ (M:Int),l,⟨by omega,he,by omega,by omega,rfl,hU,by omega,?_,?_,?_,?_,?_,?_,?_,?_,?_,?_,?_⟩⟩
 ·intro h
  exact⟨by unfold cR;rw[h];rfl,hc h⟩
 ·intro h h1
  unfold cR
  rw[h,decide_eq_false (by omega)]
  rfl
 ·intro h h1
  unfold cR
  obtain⟨s,hs⟩:∃ s:Nat,cE 53 (-1074) M exp-exp-1=s:=⟨(cE 53 (-1074) M exp-exp-1).toNat,by omega⟩
  rw[h,decide_eq_true h1,hs,Int.toNat_natCast,Bool.false_or,Bool.true_and]
  have:=KT (s:=s) hl hM0
  by_cases q:l<s
  ·rw[decide_eq_true q,decide_eq_true (this.1 ⟨hl0.1,q⟩)]
  ·rw[decide_eq_false q,decide_eq_false (fun q2=>q (this.2 q2).2)]
 ·intro ts t w
  rw[run_max_int2,hE]
  congr 2
  omega
 ·intro ts t w
  rw[run_max_int2]
  congr 2
  omega
 ·intro W hR
  have:=xN ao n cap d W hR hd (by omega)
  rwa [hM] at this
 ·intro W hR
  obtain⟨k,hk⟩:∃ k:Nat,max (cE 53 (-1074) M exp-exp) 0=k:=⟨(max (cE 53 (-1074) M exp-exp) 0).toNat,by omega⟩
  rw[hk]
  refine(zS ao n cap k d W hR hd.1 (by omega) (by omega)).mono ?_
  rintro e w' ⟨v,rfl,hA⟩
  obtain⟨so,sn,sc,rfl⟩:=hA.num.shape
  refine⟨so,sn,sc,rfl,hA.below,fun h=>?_⟩
  have h2:=hA.num
  rw[hM] at h2
  have h3:((M:Int)/2^k)=((rU M (cE 53 (-1074) M exp-exp):Nat):Int):=by
   unfold rU
   by_cases q:cE 53 (-1074) M exp-exp<=0
   ·rw[if_pos q,show k=0 by omega,show(-(cE 53 (-1074) M exp-exp)).toNat=0 by omega]
    simp
   ·rw[if_neg q,show(cE 53 (-1074) M exp-exp).toNat=k by omega]
    simp
  rwa [h3] at h2
 ·intro h W hR
  obtain⟨k,hk⟩:∃ k:Nat,-(cE 53 (-1074) M exp-exp)=k:=⟨(-(cE 53 (-1074) M exp-exp)).toNat,by omega⟩
  rw[hk]
  refine(uz ao n cap k d W hR hd.1 (by omega) (by omega)).mono ?_
  rintro e w' ⟨v,rfl,hA⟩
  obtain⟨so,sn,sc,rfl⟩:=hA.num.shape
  refine⟨so,sn,sc,rfl,hA.below,?_⟩
  have h2:=hA.num
  rw[hM] at h2
  have h3:((M:Int)*2^k)=((rU M (cE 53 (-1074) M exp-exp):Nat):Int):=by
   unfold rU
   rw[if_pos (by omega),hk,Int.toNat_natCast]
   simp
  rwa [h3] at h2
 ·intro W hR
  by_cases q:0<cE 53 (-1074) M exp-exp
  ·obtain⟨s,hs⟩:∃ s:Nat,cE 53 (-1074) M exp-exp-1=s:=⟨(cE 53 (-1074) M exp-exp-1).toNat,by omega⟩
   have:=Jf ao n cap d W hR hd (by omega) s (by omega)
   rw[hM] at this
   unfold cH
   rw[decide_eq_true q,hs,Int.toNat_natCast,Bool.true_and]
   exact this
  ·unfold cH
   rw[decide_eq_false q,Bool.false_and]
   exact KV ao n cap _ W (by omega) (by omega)
 ·intro W hR
  refine(uA ao n cap d W hR hd.1 (by omega)).mono ?_
  rintro e w' ⟨l',rfl,h1,h2⟩
  rw[hM] at h1
  rw[BR h1 hl]
  exact⟨rfl,h2⟩
 ·intro U u0 u1
  refine⟨_,rfl,?_,fun W=>Ch U _ W (by unfold ag;omega) (by unfold ag;omega)⟩
  have:=Lf (mag:=U) (exp:=cE 53 (-1074) M exp) (by unfold ag;omega)
  unfold jp
  simp only[Bool.and_false,Bool.false_eq_true,if_false]
  exact this
def wo (way:Int) (ng:Bool) (A:Int) (p:Int):Prop:=∃ r0 left,fi A r0 left∧p=aG ng (bF way ng r0 left)
theorem wo.unique {way:Int} {ng:Bool} {A p q:Int} (h:wo way ng A p) (k:wo way ng A q):p=q:=by
 obtain⟨r0,l,h1,rfl⟩:=h
 obtain⟨s0,m,k1,rfl⟩:=k
 obtain⟨e1,e2⟩:=h1.unique k1
 rw[e1,e2]
theorem NQ (way:Int) (hw:0<=way∧way<=3) (ng:Bool) {M:Nat} {exp:Int} {more:Bool} (hc:more=true->0<cE 53 (-1074) M exp-exp) :
  eK way ng (cH M (cE 53 (-1074) M exp-exp)) (cR M more (cE 53 (-1074) M exp-exp)) (rU M (cE 53 (-1074) M exp-exp)) (cE 53 (-1074) M exp) =
   (if cO 53 (-1074) 1024 way ng M exp more then cS (-9223372036854775808) ng+(if bX way ng true 3 then 9218868437227405312 else 9218868437227405311) else cS (-9223372036854775808) ng+jp false (cU 53 (-1074) way ng M exp more) (cE 53 (-1074) M exp),cO 53 (-1074) 1024 way ng M exp more||(decide (rL M more (cE 53 (-1074) M exp-exp)≠0))):=by
 have hL:=KS (M:=M) hc
 unfold cO cU eK
 rw[hL]
 generalize cE 53 (-1074) M exp=E at *
 generalize rU M (E-exp)=K at *
 generalize cH M (E-exp)=hf at *
 generalize cR M more (E-exp)=rs at *
 have hA:ig way ng hf rs K=bX way ng (decide (K % 2=1)) (if hf then (if rs then 3 else 2) else (if rs then 1 else 0)):=by
  unfold ig bX
  have h4:way=0∨way=1∨way=2∨way=3:=by omega
  rcases h4 with rfl|rfl|rfl|rfl<;>cases ng<;>cases hf<;>cases rs<;>simp
 have hB:(way=0∨(way=2∧ng=false)∨(way=1∧ng=true))↔bX way ng true 3=true:=by
  unfold bX
  have h4:way=0∨way=1∨way=2∨way=3:=by omega
  rcases h4 with rfl|rfl|rfl|rfl<;>cases ng<;>simp
 simp only
 rw[hA]
 generalize bX way ng (decide (K % 2=1)) (if hf then (if rs then 3 else 2) else (if rs then 1 else 0))=R
 have e52:(2:Nat)^((53:Int).toNat-1)=4503599627370496:=by decide
 rw[e52]
 generalize K+(if R=true then 1 else 0)=U
 have hodd:(decide ((if hf then (if rs then (3:Int) else 2) else (if rs then 1 else 0))≠0))=(hf||rs):=by cases hf<;>cases rs<;>rfl
 rw[hodd]
 unfold cS
 by_cases c:4503599627370496<=U∧1024<(aQ (U:Int):Int)+E
 ·rw[if_pos c,decide_eq_true c.1,decide_eq_true c.2,Bool.and_self,if_pos rfl,Bool.true_or]
  congr 2
  by_cases q:bX way ng true 3=true
  ·rw[if_pos (hB.2 q),if_pos q]
  ·rw[if_neg (fun q2=>q (hB.1 q2)),if_neg q]
 ·rw[if_neg c]
  have:(decide (4503599627370496<=U)&&decide (1024<(aQ (U:Int):Int)+E))=false:=by
   by_cases c1:4503599627370496<=U
   ·rw[decide_eq_false (p:=1024<_) (fun c2=>c ⟨c1,c2⟩),Bool.and_false]
   ·rw[decide_eq_false c1,Bool.false_and]
  rw[this]
  simp only[Bool.false_eq_true,if_false,Bool.false_or]
theorem IA (way:Int) (hw:0<=way∧way<=3) (ng:Bool) (ao:Option Addr) (n cap:Nat) (d:Nat->Int) (exp:Int) (more:Bool) (w:World) (h:aU w ao n cap d) (hd:cT d n) (hn:n<=10000) (h0:0<n) (he:-1300000<=exp∧exp<=1300000) {A:Int} (hA:sJ A (val d n).toNat exp more) (hc:more=true->2^60<=(val d n).toNat) :
  Calls prog 234 #[eC,.bool ng,.slice ao n cap,G6 exp,.bool more,G6 way] w fun e w'=>∃ p o r0 left,e=.returned (.tuple #[G6 p,.bool o])∧Below w.heap.size w w'∧fi A r0 left∧p=aG ng (bF way ng r0 left)∧o=(decide (left≠0)||decide (9218868437227405312<=(r0:Int))):=by
 have hpos:0<val d n:=by
  have h1:=ik hd.1 h0 hd.2
  have:=dt (n-1)
  omega
 have hM0:(val d n).toNat≠0:=by omega
 have hc2:more=true->0<cE 53 (-1074) (val d n).toNat exp-exp:=fun q=>by
  have h1:=hc q
  obtain⟨b0,b1,b2⟩:=rO hM0
  have h2:60<aQ (((val d n).toNat:Nat):Int):=(Nat.pow_lt_pow_iff_right (by decide:1<2)).1 (Nat.lt_of_le_of_lt h1 b2)
  unfold cE
  omega
 obtain⟨nb,l,F⟩:=NP ao n cap d exp more hd hn h0 he hc2
 refine(KW way hw ng ao n cap d exp more w h nb _ _ _ _ _ l F).mono ?_
 rintro e w' ⟨rfl,hb⟩
 obtain⟨r0,left,s1,s2,s3⟩:=KU (way:=way) (ng:=ng) hA hM0 (by omega) hc
 have hT:=NQ way hw ng (M:=(val d n).toNat) (exp:=exp) hc2
 rw[s2,s3] at hT
 rw[hT]
 exact⟨_,_,r0,left,rfl,hb,s1,rfl,rfl⟩
theorem Fk (way:Int) (hw:0<=way∧way<=3) {g:Bool} {so:Option Addr} {sn sc:Nat} {e S:Int} {w:World} (h:br w (.agg #[.bool g,.slice so sn sc,G6 e]) S) (ok:eR S) (h0:S≠0) :
  Calls prog 234 #[eC,.bool g,.slice so sn sc,G6 e,.bool false,G6 way] w fun x w'=>∃ p o,x=.returned (.tuple #[G6 p,.bool o])∧Below w.heap.size w w'∧wo way (decide (S<0)) S.natAbs p:=by
 obtain⟨ng,s,m,e',h1,hy,ao,n,cap,d,h2,hR,hN,hv⟩:=h
 simp only[Value.agg.injEq,Array.mk.injEq,List.cons.injEq,Value.bool.injEq,Value.int.injEq,true_and,and_true] at h1
 obtain⟨rfl,rfl,rfl⟩:=h1
 simp only[Value.slice.injEq] at h2
 obtain⟨rfl,rfl,rfl⟩:=h2
 obtain⟨k1,k2,k3⟩:=hy.ok.1 ok
 have hm0:m≠0:=fun q=>h0 (hy.eq_zero.2 q)
 have hmp:0<m:=by have:=hy.nonneg;omega
 have hsn:sn<=2000:=by
  have hNN:dU w (.slice so sn sc) m:=⟨_,_,_,_,rfl,hR,hN,hv⟩
  exact hNN.len k1
 have hs0:0<sn:=by
  rcases Nat.eq_zero_or_pos sn with q|q
  ·subst q
   exact absurd (hv.symm.trans rfl) hm0
  ·exact q
 have hng:g=decide (S<0):=by
  have:=hy.neg_iff
  cases g
  ·symm;exact decide_eq_false (fun q=>by simpa using this.2 q)
  ·symm;exact decide_eq_true (this.1 rfl)
 have hA:sJ (S.natAbs:Int) (val d sn).toNat e false:=by
  have e1:(((val d sn).toNat:Nat):Int)=m:=by omega
  have e2:=zv hy
  unfold sJ
  rw[e1,e2,Int.add_mul,Int.one_mul,e2]
  have:=bR e
  refine⟨Int.le_refl _,by omega,by simp⟩
 refine(IA way hw g so sn sc d e false w hR hN (by omega) hs0 (by omega) hA (fun q=>by cases q)).mono ?_
 rintro x w' ⟨p,o,r0,left,rfl,hb,h4,h5,h6⟩
 exact⟨p,o,rfl,hb,r0,left,h4,by rw[<- hng];exact h5⟩
def LV (way:Int) (pn qn:Bool) (Vp Vq:Int) (r:Int):Prop :=
 (Vp+Vq=0->r=aG (if Vp=0∧pn=qn then pn else decide (way=1)) 0)∧(Vp+Vq≠0->wo way (decide (Vp+Vq<0)) (Vp+Vq).natAbs r)
theorem lH {w:World} {g:Bool} {so:Option Addr} {sn sc:Nat} {e S:Int} (h:br w (.agg #[.bool g,.slice so sn sc,G6 e]) S):(sn=0↔S=0)∧sn<=9223372036854775807:=by
 obtain⟨ng,s,m,e',h1,hy,ao,n,cap,d,h2,hR,hN,hv⟩:=h
 simp only[Value.agg.injEq,Array.mk.injEq,List.cons.injEq,Value.bool.injEq,Value.int.injEq,true_and,and_true] at h1
 obtain⟨rfl,rfl,rfl⟩:=h1
 simp only[Value.slice.injEq] at h2
 obtain⟨rfl,rfl,rfl⟩:=h2
 have hm:=hR.max
 have hl:=hR.le
 refine⟨?_,by omega⟩
 rw[hy.eq_zero]
 constructor
 ·intro q
  subst q
  exact hv.symm.trans rfl
 ·intro q
  rcases Nat.eq_zero_or_pos sn with z|z
  ·exact z
  ·have h1:=ik hN.1 z hN.2
   have:=dt (sn-1)
   omega
theorem nk.both {w w':World} {A B:Int} {x y v:Value} (h:nk w w' A B x y v) (hx:br w x A) (hy:br w y B):br w' v (A+B)∧Below w.heap.size w w':=by
 obtain⟨hb,h|⟨h1,h2⟩|⟨h1,h2⟩⟩:=h
 ·exact⟨h.num,hb⟩
 ·subst h2;rw[h1,Int.zero_add];exact⟨hy.keeps hb,hb⟩
 ·subst h2;rw[h1,Int.add_zero];exact⟨hx.keeps hb,hb⟩
theorem br.shape {w:World} {v:Value} {V:Int} (h:br w v V):∃ g so sn sc e,v=.agg #[.bool g,.slice so sn sc,G6 e]:=by
 obtain⟨ng,s,m,e',h1,hy,ao,n,cap,d,h2,hR,hN,hv⟩:=h
 subst h2
 exact⟨_,_,_,_,_,h1⟩
def C8 (k s:Nat) (g:Bool) (so:Option Addr) (sn sc:Nat) (e:Int) (W:World):Prop :=
 (W.cell? ⟨k,0,none⟩=some (G6 53)∧W.cell? ⟨k,1,none⟩=some (G6 (-1074))∧W.cell? ⟨k,2,none⟩=some (G6 1024)∧W.cell? ⟨k,3,none⟩=some (G6 9218868437227405312)∧W.cell? ⟨k,4,none⟩=some (G6 (-9223372036854775808))) ∧
 W.cell? ⟨s,0,none⟩=some (.bool g)∧W.cell? ⟨s,1,none⟩=some (.slice so sn sc)∧W.cell? ⟨s,2,none⟩=some (G6 e)
theorem NR (way:Int) (hw:0<=way∧way<=3) (pn qn xg yg:Bool) (xo yo:Option Addr) (xn xc yn yc:Nat) (xe ye Vp Vq:Int) (w:World) (hx:br w (.agg #[.bool xg,.slice xo xn xc,G6 xe]) Vp) (hy:br w (.agg #[.bool yg,.slice yo yn yc,G6 ye]) Vq) (bx:Bd 9000 Vp) (bY:Bd 9000 Vq) :
  Calls prog 181 #[eC,.agg #[.bool pn,.bool false,.bool false,.bool xg,.slice xo xn xc,G6 xe],.agg #[.bool qn,.bool false,.bool false,.bool yg,.slice yo yn yc,G6 ye],G6 way] w fun x w'=>∃ r,x=.returned (G6 r)∧Below w.heap.size w w'∧LV way pn qn Vp Vq r:=by
 unfold eC
 have hb3:=df w (.cells #[G6 53,G6 (-1074),G6 1024,G6 9218868437227405312,G6 (-9223372036854775808)] 147) (.cells #[.bool pn,.bool false,.bool false,.bool xg,.slice xo xn xc,G6 xe] 195) (.cells #[.bool qn,.bool false,.bool false,.bool yg,.slice yo yn yc,G6 ye] 195)
 have g0:=pD w (.cells #[G6 53,G6 (-1074),G6 1024,G6 9218868437227405312,G6 (-9223372036854775808)] 147) (.cells #[.bool pn,.bool false,.bool false,.bool xg,.slice xo xn xc,G6 xe] 195) (.cells #[.bool qn,.bool false,.bool false,.bool yg,.slice yo yn yc,G6 ye] 195)
 have g1:=pE w (.cells #[G6 53,G6 (-1074),G6 1024,G6 9218868437227405312,G6 (-9223372036854775808)] 147) (.cells #[.bool pn,.bool false,.bool false,.bool xg,.slice xo xn xc,G6 xe] 195) (.cells #[.bool qn,.bool false,.bool false,.bool yg,.slice yo yn yc,G6 ye] 195)
 have g2:=lh w (.cells #[G6 53,G6 (-1074),G6 1024,G6 9218868437227405312,G6 (-9223372036854775808)] 147) (.cells #[.bool pn,.bool false,.bool false,.bool xg,.slice xo xn xc,G6 xe] 195) (.cells #[.bool qn,.bool false,.bool false,.bool yg,.slice yo yn yc,G6 ye] 195)
 have hs3:=nt w (.cells #[G6 53,G6 (-1074),G6 1024,G6 9218868437227405312,G6 (-9223372036854775808)] 147) (.cells #[.bool pn,.bool false,.bool false,.bool xg,.slice xo xn xc,G6 xe] 195) (.cells #[.bool qn,.bool false,.bool false,.bool yg,.slice yo yn yc,G6 ye] 195)
 obtain⟨zx,mx⟩:=lH hx
 obtain⟨zy,my⟩:=lH hy
 go_enter func181,ntmps181
 go_wp2_with fail
 have HX:=hx.keeps hb3
 have HY:=hy.keeps hb3
 generalize ((w.alloc (.cells #[G6 53,G6 (-1074),G6 1024,G6 9218868437227405312,G6 (-9223372036854775808)] 147)).alloc (.cells #[.bool pn,.bool false,.bool false,.bool xg,.slice xo xn xc,G6 xe] 195)).alloc (.cells #[.bool qn,.bool false,.bool false,.bool yg,.slice yo yn yc,G6 ye] 195)=wx at hb3 g0 g1 g2 hs3 HX HY ⊢
 refine(AT HX HY (show 9000<=560000 by decide) bx bY).mono ?_
 rintro _ w3 ⟨v,rfl,hS⟩
 obtain⟨hN,hb4⟩:=hS.both HX HY
 obtain⟨g,so,sn,sc,e,rfl⟩:=hN.shape
 obtain⟨zs,ms⟩:=lH hN
 have ok:eR (Vp+Vq):=(bx.add bY (by decide)).ok (by decide)
 have p0:=(hb4.block w.heap.size (by omega)).trans g0
 have p1:=(hb4.block (w.heap.size+1) (by omega)).trans g1
 have p2:=(hb4.block (w.heap.size+2) (by omega)).trans g2
 have P0:=am (.cells #[.bool g,.slice so sn sc,G6 e] 40) p0
 have P1:=am (.cells #[.bool g,.slice so sn sc,G6 e] 40) p1
 have P2:=am (.cells #[.bool g,.slice so sn sc,G6 e] 40) p2
 have Ps:=aD w3 (.cells #[.bool g,.slice so sn sc,G6 e] 40)
 have a0:=ae P0 0 rfl
 have a1:=ae P0 1 rfl
 have a2:=ae P0 2 rfl
 have a3:=ae P0 3 rfl
 have a4:=ae P0 4 rfl
 have b0:=ae P1 0 rfl
 have b1:=ae P1 1 rfl
 have b2:=ae P1 2 rfl
 have b3:=ae P1 3 rfl
 have b4:=ae P1 4 rfl
 have b5:=ae P1 5 rfl
 have c0:=ae P2 0 rfl
 have c1:=ae P2 1 rfl
 have c2:=ae P2 2 rfl
 have c3:=ae P2 3 rfl
 have c4:=ae P2 4 rfl
 have c5:=ae P2 5 rfl
 have s0:=ae Ps 0 rfl
 have s1:=ae Ps 1 rfl
 have s2:=ae Ps 2 rfl
 have hbw:=ac hb3 hb4
 have hsz:w.heap.size+3<=w3.heap.size:=by have:=hb4.size;omega
 have HN:Hid (br w3 (.agg #[.bool g,.slice so sn sc,G6 e]) (Vp+Vq)):=hN
 have HOK:Hid (eR (Vp+Vq)):=ok
 clear hS hN ok HX HY hx hy bx bY hb3 hb4
 by_cases hS0:Vp+Vq=0
 ·have hsn:=zs.2 hS0
  subst hsn
  have hb5:=af w3 (.cells #[.bool g,.slice so 0 sc,G6 e] 40)
  have zq:Vp=0->Vq=0:=fun q=>by omega
  clear zs
  by_cases hx0:xn=0
  ·have hy0:=zy.2 (zq (zx.1 hx0))
   have hV0:=zx.1 hx0
   subst hx0 hy0
   have CZ:=fun W=>mZ pn false false xg xo 0 xc xe (by omega) W
   have CY:=fun W=>mZ qn false false yg yo 0 yc ye (by omega) W
   simp only[Bool.not_false,Bool.and_self,decide_true] at CZ CY
   clear zx zy zq HN HOK
   have SG:=fun gg W=>kY gg 0 (by omega) W
   unfold eC at SG
   cases pn<;>cases qn
   all_goals
    go_wp2_with fail
    refine(CZ _).mono ?_
    rintro _ w4 ⟨rfl,hb6⟩
    have Q0:=(hb6.block _ (aGe P0).1).trans P0
    have Q1:=(hb6.block _ (aGe P1).1).trans P1
    have Q2:=(hb6.block _ (aGe P2).1).trans P2
    have a0':=ae Q0 0 rfl
    have a1':=ae Q0 1 rfl
    have a2':=ae Q0 2 rfl
    have a3':=ae Q0 3 rfl
    have a4':=ae Q0 4 rfl
    have b0':=ae Q1 0 rfl
    have b1':=ae Q1 1 rfl
    have b2':=ae Q1 2 rfl
    have b3':=ae Q1 3 rfl
    have b4':=ae Q1 4 rfl
    have b5':=ae Q1 5 rfl
    have c0':=ae Q2 0 rfl
    have c1':=ae Q2 1 rfl
    have c2':=ae Q2 2 rfl
    have c3':=ae Q2 3 rfl
    have c4':=ae Q2 4 rfl
    have c5':=ae Q2 5 rfl
    clear P0 P1 P2
    go_wp2_with fail
    refine(CY _).mono ?_
    rintro _ w5 ⟨rfl,hb7⟩
    have R0:=(hb7.block _ (aGe Q0).1).trans Q0
    have R1:=(hb7.block _ (aGe Q1).1).trans Q1
    have R2:=(hb7.block _ (aGe Q2).1).trans Q2
    have a0'':=ae R0 0 rfl
    have a1'':=ae R0 1 rfl
    have a2'':=ae R0 2 rfl
    have a3'':=ae R0 3 rfl
    have a4'':=ae R0 4 rfl
    have b0'':=ae R1 0 rfl
    have b1'':=ae R1 1 rfl
    have b2'':=ae R1 2 rfl
    have b3'':=ae R1 3 rfl
    have b4'':=ae R1 4 rfl
    have b5'':=ae R1 5 rfl
    have c0'':=ae R2 0 rfl
    have c1'':=ae R2 1 rfl
    have c2'':=ae R2 2 rfl
    have c3'':=ae R2 3 rfl
    have c4'':=ae R2 4 rfl
    have c5'':=ae R2 5 rfl
    clear Q0 Q1 Q2
    have hbw5:=ac (ac (ac hbw hb5) hb6) hb7
    go_wp2_with fail
    refine(SG _ _).mono ?_
    rintro _ w6 ⟨rfl,hb8⟩
    go_wp2
    go_ret
    refine⟨_,rfl,ac hbw5 hb8,fun _=>?_,fun q=>absurd hS0 q⟩
   ·rw[if_pos ⟨hV0,rfl⟩]
   ·rw[if_neg (fun q=>by cases q.2)];rfl
   ·rw[if_neg (fun q=>by cases q.2)];rfl
   ·rw[if_pos ⟨hV0,rfl⟩]
  ·have hV0:Vp≠0:=fun q=>hx0 (zx.2 q)
   have CZ:=fun W=>mZ pn false false xg xo xn xc xe (by omega) W
   rw[decide_eq_false hx0] at CZ
   simp only[Bool.not_false,Bool.and_self,Bool.and_false] at CZ
   have SG:=fun gg W=>kY gg 0 (by omega) W
   unfold eC at SG
   clear zx zy zq HN HOK
   go_wp2_with fail
   refine(CZ _).mono ?_
   rintro _ w4 ⟨rfl,hb6⟩
   have Q0:=(hb6.block _ (aGe P0).1).trans P0
   have Q1:=(hb6.block _ (aGe P1).1).trans P1
   have Q2:=(hb6.block _ (aGe P2).1).trans P2
   have a0':=ae Q0 0 rfl
   have a1':=ae Q0 1 rfl
   have a2':=ae Q0 2 rfl
   have a3':=ae Q0 3 rfl
   have a4':=ae Q0 4 rfl
   have b0':=ae Q1 0 rfl
   have b1':=ae Q1 1 rfl
   have b2':=ae Q1 2 rfl
   have b3':=ae Q1 3 rfl
   have b4':=ae Q1 4 rfl
   have b5':=ae Q1 5 rfl
   have c0':=ae Q2 0 rfl
   have c1':=ae Q2 1 rfl
   have c2':=ae Q2 2 rfl
   have c3':=ae Q2 3 rfl
   have c4':=ae Q2 4 rfl
   have c5':=ae Q2 5 rfl
   clear P0 P1 P2
   have hbw5:=ac (ac hbw hb5) hb6
   go_wp2_with fail
   refine(SG _ _).mono ?_
   rintro _ w6 ⟨rfl,hb8⟩
   go_wp2
   go_ret
   refine⟨_,rfl,ac hbw5 hb8,fun _=>?_,fun q=>absurd hS0 q⟩
   rw[if_neg (fun q=>hV0 q.1)]
   rfl
 ·have hsn:sn≠0:=fun q=>hS0 (zs.1 q)
  have hsn1:(0:Int)<sn:=by omega
  have hsn2:((sn:Int) == 0)=false:=by simp;omega
  clear zs zx zy
  have hb5:=af w3 (.cells #[.bool g,.slice so sn sc,G6 e] 40)
  go_wp2_with fail
  have HN4:Hid (br (w3.alloc (.cells #[.bool g,.slice so sn sc,G6 e] 40)) (.agg #[.bool g,.slice so sn sc,G6 e]) (Vp+Vq)):=HN.out.keeps hb5
  have K8:C8 w.heap.size w3.heap.size g so sn sc e (w3.alloc (.cells #[.bool g,.slice so sn sc,G6 e] 40)):=⟨⟨a0,a1,a2,a3,a4⟩,s0,s1,s2⟩
  have hbw4:=ac hbw hb5
  clear a0 a1 a2 a3 a4 b0 b1 b2 b3 b4 b5 c0 c1 c2 c3 c4 c5 P0 P1 P2 Ps s0 s1 s2 p0 p1 p2 g0 g1 g2 HN
  generalize w3.alloc (.cells #[.bool g,.slice so sn sc,G6 e] 40)=w4 at hb5 HN4 K8 hbw4 ⊢
  have CC:∀ W,Below w4.heap.size w4 W->Calls prog 234 #[.agg #[G6 53,G6 (-1074),G6 1024,G6 9218868437227405312,G6 (-9223372036854775808)],.bool g,.slice so sn sc,G6 e,.bool false,G6 way] W fun x w'=>∃ p o,x=.returned (.tuple #[G6 p,.bool o])∧Below W.heap.size W w'∧wo way (decide (Vp+Vq<0)) (Vp+Vq).natAbs p:=fun W hW=>Fk way hw (HN4.out.keeps hW) HOK.out hS0
  refine(CC _ (ap _)).mono ?_
  rintro _ w5 ⟨p,o,rfl,hb6,hR⟩
  go_wp2
  all_goals go_ret
  all_goals exact⟨_,rfl,ac hbw4 hb6,fun q=>absurd q hS0,fun _=>hR⟩
def tU (pn pa pi qn qa qi:Bool):Int:=if pa||qa||(pi&&qi&&(pn != qn)) then 9221120237041090561 else if pi then aG pn 9218868437227405312 else aG qn 9218868437227405312
theorem IB (way:Int) (pn pa pi qn qa qi xg yg:Bool) (xo yo:Option Addr) (xn xc yn yc:Nat) (xe ye:Int) (w:World) (h:(pa||qa||pi||qi)=true) :
  Calls prog 181 #[eC,.agg #[.bool pn,.bool pa,.bool pi,.bool xg,.slice xo xn xc,G6 xe],.agg #[.bool qn,.bool qa,.bool qi,.bool yg,.slice yo yn yc,G6 ye],G6 way] w fun x w'=>x=.returned (G6 (tU pn pa pi qn qa qi))∧Below w.heap.size w w':=by
 have SG:=fun gg W=>kY gg 9218868437227405312 (by omega) W
 have NA:=fun W=>Bx W
 unfold eC at *
 unfold tU
 cases pa
 ·cases qa
  ·cases pi
   ·cases qi
    ·cases h
    ·go_enter func181,ntmps181
     go_wp2_with fail
     refine(SG _ _).mono ?_
     rintro _ w1 ⟨rfl,hb1⟩
     go_wp2
     go_ret
     exact⟨by simp,ac (df w _ _ _) hb1⟩
   ·cases qi
    ·go_enter func181,ntmps181
     go_wp2_with fail
     refine(SG _ _).mono ?_
     rintro _ w1 ⟨rfl,hb1⟩
     go_wp2
     go_ret
     exact⟨by simp,ac (df w _ _ _) hb1⟩
    ·cases pn<;>cases qn
     all_goals
      go_enter func181,ntmps181
      go_wp2_with fail
      first|refine(SG _ _).mono ?_|refine(NA _).mono ?_
      rintro _ w1 ⟨rfl,hb1⟩
      go_wp2
      go_ret
      exact⟨by simp,ac (df w _ _ _) hb1⟩
  ·go_enter func181,ntmps181
   go_wp2_with fail
   refine(NA _).mono ?_
   rintro _ w1 ⟨rfl,hb1⟩
   go_wp2
   go_ret
   exact⟨by simp,ac (df w _ _ _) hb1⟩
 ·go_enter func181,ntmps181
  go_wp2_with fail
  refine(NA _).mono ?_
  rintro _ w1 ⟨rfl,hb1⟩
  go_wp2
  go_ret
  exact⟨by simp,ac (df w _ _ _) hb1⟩
def wt (way:Int) (ng na ni:Bool) (V:Int) (r:Int):Prop :=
 if na then r=9221120237041090561 else if ni then r=aG ng 9218868437227405312 else if V=0 then r=aG ng 0 else wo way (decide (V<0)) V.natAbs r
theorem Fm (way:Int) (hw:0<=way∧way<=3) (ng na ni xg:Bool) (xo:Option Addr) (xn xc:Nat) (xe V:Int) (w:World) (hx:br w (.agg #[.bool xg,.slice xo xn xc,G6 xe]) V) (ok:eR V) :
  Calls prog 177 #[eC,.agg #[.bool ng,.bool na,.bool ni,.bool xg,.slice xo xn xc,G6 xe],G6 way] w fun x w'=>∃ r,x=.returned (G6 r)∧Below w.heap.size w w'∧wt way ng na ni V r:=by
 have SI:=fun gg W=>kY gg 9218868437227405312 (by omega) W
 have SG:=fun gg W=>kY gg 0 (by omega) W
 have NA:=fun W=>Bx W
 obtain⟨zx,mx⟩:=lH hx
 have hb2:=aM w (.cells #[G6 53,G6 (-1074),G6 1024,G6 9218868437227405312,G6 (-9223372036854775808)] 147) (.cells #[.bool ng,.bool na,.bool ni,.bool xg,.slice xo xn xc,G6 xe] 195)
 have CC:=fun (h0:V≠0) W hW=>Fk way hw (br.keeps (w':=W) (hx.keeps hb2) hW) ok h0
 unfold eC at *
 unfold wt
 cases na
 ·cases ni
  ·by_cases h0:V=0
   ·have hxn:=zx.2 h0
    subst hxn
    simp only[Bool.false_eq_true,if_false,h0,if_true]
    clear CC zx
    go_enter func177,ntmps177
    go_wp2_with fail
    refine(SG _ _).mono ?_
    rintro _ w1 ⟨rfl,hb1⟩
    go_wp2
    go_ret
    exact⟨_,rfl,ac hb2 hb1,rfl⟩
   ·have hsn:xn≠0:=fun q=>h0 (zx.1 q)
    have hsn1:(0:Int)<xn:=by omega
    have hsn2:((xn:Int) == 0)=false:=by simp;omega
    simp only[Bool.false_eq_true,if_false,h0]
    have CC':=CC h0
    clear CC zx
    go_enter func177,ntmps177
    go_wp2_with fail
    refine(CC' _ (ap _)).mono ?_
    rintro _ w1 ⟨p,o,rfl,hb1,hR⟩
    go_wp2
    go_ret
    exact⟨_,rfl,ac hb2 hb1,hR⟩
  ·simp only[Bool.false_eq_true,if_false,if_true]
   clear CC zx
   go_enter func177,ntmps177
   go_wp2_with fail
   refine(SI _ _).mono ?_
   rintro _ w1 ⟨rfl,hb1⟩
   go_wp2
   go_ret
   exact⟨_,rfl,ac hb2 hb1,rfl⟩
 ·simp only[if_true]
  clear CC zx
  go_enter func177,ntmps177
  go_wp2_with fail
  refine(NA _).mono ?_
  rintro _ w1 ⟨rfl,hb1⟩
  go_wp2
  go_ret
  exact⟨_,rfl,ac hb2 hb1,rfl⟩
theorem Fo (pn qn:Bool) (x y:aW) (w:World) (hx:aU w x.ao x.n x.cap x.d) (hy:aU w y.ao y.n y.cap y.d) (sx:gp x) (sy:gp y) :
  Calls prog 178 #[.agg #[.bool pn,.bool false,.bool false,.bool x.ng,.slice x.ao x.n x.cap,G6 x.e],.agg #[.bool qn,.bool false,.bool false,.bool y.ng,.slice y.ao y.n y.cap,G6 y.e]] w fun r w'=>∃ v,r=.returned v∧Below w.heap.size w w'∧Pt w' (pn != qn) false false (oj x y) v:=by
 have CM:=fun W hW=>th x y W (aU.keeps (w':=W) hx hW) (aU.keeps (w':=W) hy hW) sx sy
 generalize oj x y=V at CM ⊢
 obtain⟨an,ao,n,ca,a,e⟩:=x
 obtain⟨bn,bo,m,cb,b,f⟩:=y
 unfold aW.v at CM
 simp only at *
 clear hx hy sx sy
 go_enter func178,ntmps178
 go_wp2_with fail
 refine(CM _ (gY w _ _ _ _)).mono ?_
 rintro _ w3 ⟨v,rfl,hD⟩
 obtain⟨ng',s',m',e',rfl,hyy,hA2⟩:=id hD
 obtain⟨so',sn',sc',rfl⟩:=hA2.num.shape
 have q1:=(hD.below.block (w.heap.size+2) (by rw[jw];omega)).trans (lf _ _ _ _ _)
 have q2:=(hD.below.block (w.heap.size+3) (by rw[jw];omega)).trans (lg _ _ _ _ _)
 have x0:=ae q1 0 rfl
 have f0:=ah q1 0
 have x1:=ae q1 1 rfl
 have f1:=ah q1 1
 have x2:=ae q1 2 rfl
 have f2:=ah q1 2
 have x3:=ae q1 3 rfl
 have f3:=ah q1 3
 have x4:=ae q1 4 rfl
 have f4:=ah q1 4
 have x5:=ae q1 5 rfl
 have f5:=ah q1 5
 have y0:=ae q2 0 rfl
 have y1:=ae q2 1 rfl
 have y2:=ae q2 2 rfl
 have y3:=ae q2 3 rfl
 have y4:=ae q2 4 rfl
 have y5:=ae q2 5 rfl
 have g3:=ah q2 3
 have g4:=ah q2 4
 have g5:=ah q2 5
 have hbw:=ac (gY w _ _ _ _) hD.below
 have hDa:=hD.dan
 rw[jw] at hDa
 clear hD hA2 hyy CM q1 q2
 go_wp2
 refine bodyPost_ret (v:=.agg #[.bool (!(pn == qn)),.bool false,.bool false,.bool ng',.slice so' sn' sc',G6 e']) (by simp[results,results178,go_sem,x0,x1,x2,x3,x4,x5]) rfl ⟨_,rfl,?_,?_⟩
 ·iterate 9 (refine Below.setCell ?_ (by dsimp only;omega) _)
  exact hbw
 ·refine⟨_,_,_,_,_,rfl,cB.num (B:=w.heap.size+4) ?_⟩
  iterate 9 (refine cB.set ?_ (by dsimp only;omega) _)
  exact hDa
theorem Fp (pn pa pi qn qa qi xg yg:Bool) (xo yo:Option Addr) (xn xc yn yc:Nat) (xe ye:Int) (w:World) (h:(pa||qa)=true) :
  Calls prog 178 #[.agg #[.bool pn,.bool pa,.bool pi,.bool xg,.slice xo xn xc,G6 xe],.agg #[.bool qn,.bool qa,.bool qi,.bool yg,.slice yo yn yc,G6 ye]] w fun r w'=>∃ v,r=.returned v∧Below w.heap.size w w'∧Pt w' (pn != qn) true false 0 v:=by
 have au:(pa=true)∨(pa=false∧qa=true):=by cases pa<;>cases qa<;>simp_all
 rcases au with rfl|⟨rfl,rfl⟩
 all_goals
  clear h
  go_enter func178,ntmps178
  go_wp2
  refine bodyPost_ret (v:=.agg #[.bool (!(pn == qn)),.bool true,.bool false,.bool false,.slice none 0 0,G6 0]) (by simp[results,results178,go_sem]) rfl ⟨_,rfl,?_,?_⟩
  ·exact gY w _ _ _ _
  ·exact⟨_,_,_,_,_,rfl,br.zero _⟩
theorem Fq (pn pi qn qi xg yg:Bool) (xo yo:Option Addr) (xn xc yn yc:Nat) (xe ye:Int) (w:World) (hx:xn<=9223372036854775807) (hy:yn<=9223372036854775807) (h:(pi||qi)=true) :
  Calls prog 178 #[.agg #[.bool pn,.bool false,.bool pi,.bool xg,.slice xo xn xc,G6 xe],.agg #[.bool qn,.bool false,.bool qi,.bool yg,.slice yo yn yc,G6 ye]] w fun r w'=>∃ v,r=.returned v∧Below w.heap.size w w'∧Pt w' (pn != qn) ((pi&&!qi&&decide (yn=0))||(qi&&!pi&&decide (xn=0))) (!((pi&&!qi&&decide (yn=0))||(qi&&!pi&&decide (xn=0)))) 0 v:=by
 have CZ:=fun W=>mZ pn false pi xg xo xn xc xe hx W
 have CY:=fun W=>mZ qn false qi yg yo yn yc ye hy W
 obtain⟨zx,hzx⟩:∃ z,decide (xn=0)=z:=⟨_,rfl⟩
 obtain⟨zy,hzy⟩:∃ z,decide (yn=0)=z:=⟨_,rfl⟩
 rw[hzx,hzy]
 rw[hzx] at CZ
 rw[hzy] at CY
 clear hzx hzy
 cases pi<;>cases qi
 ·cases h
 ·cases zx
  ·simp only[Bool.not_false,Bool.not_true,Bool.and_self,Bool.and_false,Bool.and_true,Bool.false_and,Bool.true_and] at CZ CY
   go_enter func178,ntmps178
   go_wp2_with fail
   refine(CZ _).mono ?_
   rintro _ w1 ⟨rfl,hb1⟩
   have Q0:=(hb1.block _ (aGe (lO _ _ _ _ _)).1).trans (lO _ _ _ _ _)
   have Q1:=(hb1.block _ (aGe (lP _ _ _ _ _)).1).trans (lP _ _ _ _ _)
   have Q2:=(hb1.block _ (aGe (lf _ _ _ _ _)).1).trans (lf _ _ _ _ _)
   have Q3:=(hb1.block _ (aGe (lg _ _ _ _ _)).1).trans (lg _ _ _ _ _)
   have a0:=ae Q0 0 rfl
   have a1:=ae Q0 1 rfl
   have a2:=ae Q0 2 rfl
   have a3:=ae Q0 3 rfl
   have a4:=ae Q0 4 rfl
   have a5:=ae Q0 5 rfl
   have b0:=ae Q1 0 rfl
   have b1:=ae Q1 1 rfl
   have b2:=ae Q1 2 rfl
   have b3:=ae Q1 3 rfl
   have b4:=ae Q1 4 rfl
   have b5:=ae Q1 5 rfl
   have c0:=ae Q2 0 rfl
   have c1:=ae Q2 1 rfl
   have c2:=ae Q2 2 rfl
   have c3:=ae Q2 3 rfl
   have c4:=ae Q2 4 rfl
   have c5:=ae Q2 5 rfl
   have d0:=ae Q3 0 rfl
   have d1:=ae Q3 1 rfl
   have d2:=ae Q3 2 rfl
   have d3:=ae Q3 3 rfl
   have d4:=ae Q3 4 rfl
   have d5:=ae Q3 5 rfl
   have fc0:=ah Q2 0
   have fc1:=ah Q2 1
   have fc2:=ah Q2 2
   have fc3:=ah Q2 3
   have fc4:=ah Q2 4
   have fc5:=ah Q2 5
   have fd1:=ah Q3 1
   have fd2:=ah Q3 2
   have hbw:=ac (gY w _ _ _ _) hb1
   clear CZ CY hb1 Q0 Q1 Q2 Q3
   go_wp2
   refine bodyPost_ret (v:=.agg #[.bool (!(pn == qn)),.bool false,.bool true,.bool false,.slice none 0 0,G6 0]) (by simp[results,results178,go_sem,c0,c1,c2,c3,c4,c5]) rfl ⟨_,rfl,?_,?_⟩
   ·iterate 7 (refine Below.setCell ?_ (by dsimp only;omega) _)
    exact hbw
   ·exact⟨_,_,_,_,_,rfl,br.zero _⟩
  ·simp only[Bool.not_false,Bool.not_true,Bool.and_self,Bool.and_false,Bool.and_true,Bool.false_and,Bool.true_and] at CZ CY
   go_enter func178,ntmps178
   go_wp2_with fail
   refine(CZ _).mono ?_
   rintro _ w1 ⟨rfl,hb1⟩
   have Q0:=(hb1.block _ (aGe (lO _ _ _ _ _)).1).trans (lO _ _ _ _ _)
   have Q1:=(hb1.block _ (aGe (lP _ _ _ _ _)).1).trans (lP _ _ _ _ _)
   have Q2:=(hb1.block _ (aGe (lf _ _ _ _ _)).1).trans (lf _ _ _ _ _)
   have Q3:=(hb1.block _ (aGe (lg _ _ _ _ _)).1).trans (lg _ _ _ _ _)
   have a0:=ae Q0 0 rfl
   have a1:=ae Q0 1 rfl
   have a2:=ae Q0 2 rfl
   have a3:=ae Q0 3 rfl
   have a4:=ae Q0 4 rfl
   have a5:=ae Q0 5 rfl
   have b0:=ae Q1 0 rfl
   have b1:=ae Q1 1 rfl
   have b2:=ae Q1 2 rfl
   have b3:=ae Q1 3 rfl
   have b4:=ae Q1 4 rfl
   have b5:=ae Q1 5 rfl
   have c0:=ae Q2 0 rfl
   have c1:=ae Q2 1 rfl
   have c2:=ae Q2 2 rfl
   have c3:=ae Q2 3 rfl
   have c4:=ae Q2 4 rfl
   have c5:=ae Q2 5 rfl
   have d0:=ae Q3 0 rfl
   have d1:=ae Q3 1 rfl
   have d2:=ae Q3 2 rfl
   have d3:=ae Q3 3 rfl
   have d4:=ae Q3 4 rfl
   have d5:=ae Q3 5 rfl
   have fc0:=ah Q2 0
   have fc1:=ah Q2 1
   have fc2:=ah Q2 2
   have fc3:=ah Q2 3
   have fc4:=ah Q2 4
   have fc5:=ah Q2 5
   have fd1:=ah Q3 1
   have fd2:=ah Q3 2
   have hbw:=ac (gY w _ _ _ _) hb1
   clear CZ CY hb1 Q0 Q1 Q2 Q3
   go_wp2
   refine bodyPost_ret (v:=.agg #[.bool (!(pn == qn)),.bool true,.bool false,.bool false,.slice none 0 0,G6 0]) (by simp[results,results178,go_sem,c0,c1,c2,c3,c4,c5]) rfl ⟨_,rfl,?_,?_⟩
   ·iterate 7 (refine Below.setCell ?_ (by dsimp only;omega) _)
    exact hbw
   ·exact⟨_,_,_,_,_,rfl,br.zero _⟩
 ·cases zy
  ·simp only[Bool.not_false,Bool.not_true,Bool.and_self,Bool.and_false,Bool.and_true,Bool.false_and,Bool.true_and] at CZ CY
   go_enter func178,ntmps178
   go_wp2_with fail
   refine(CY _).mono ?_
   rintro _ w1 ⟨rfl,hb1⟩
   have Q0:=(hb1.block _ (aGe (lO _ _ _ _ _)).1).trans (lO _ _ _ _ _)
   have Q1:=(hb1.block _ (aGe (lP _ _ _ _ _)).1).trans (lP _ _ _ _ _)
   have Q2:=(hb1.block _ (aGe (lf _ _ _ _ _)).1).trans (lf _ _ _ _ _)
   have Q3:=(hb1.block _ (aGe (lg _ _ _ _ _)).1).trans (lg _ _ _ _ _)
   have a0:=ae Q0 0 rfl
   have a1:=ae Q0 1 rfl
   have a2:=ae Q0 2 rfl
   have a3:=ae Q0 3 rfl
   have a4:=ae Q0 4 rfl
   have a5:=ae Q0 5 rfl
   have b0:=ae Q1 0 rfl
   have b1:=ae Q1 1 rfl
   have b2:=ae Q1 2 rfl
   have b3:=ae Q1 3 rfl
   have b4:=ae Q1 4 rfl
   have b5:=ae Q1 5 rfl
   have c0:=ae Q2 0 rfl
   have c1:=ae Q2 1 rfl
   have c2:=ae Q2 2 rfl
   have c3:=ae Q2 3 rfl
   have c4:=ae Q2 4 rfl
   have c5:=ae Q2 5 rfl
   have d0:=ae Q3 0 rfl
   have d1:=ae Q3 1 rfl
   have d2:=ae Q3 2 rfl
   have d3:=ae Q3 3 rfl
   have d4:=ae Q3 4 rfl
   have d5:=ae Q3 5 rfl
   have fc0:=ah Q2 0
   have fc1:=ah Q2 1
   have fc2:=ah Q2 2
   have fc3:=ah Q2 3
   have fc4:=ah Q2 4
   have fc5:=ah Q2 5
   have fd1:=ah Q3 1
   have fd2:=ah Q3 2
   have hbw:=ac (gY w _ _ _ _) hb1
   clear CZ CY hb1 Q0 Q1 Q2 Q3
   go_wp2
   refine bodyPost_ret (v:=.agg #[.bool (!(pn == qn)),.bool false,.bool true,.bool false,.slice none 0 0,G6 0]) (by simp[results,results178,go_sem,c0,c1,c2,c3,c4,c5]) rfl ⟨_,rfl,?_,?_⟩
   ·iterate 7 (refine Below.setCell ?_ (by dsimp only;omega) _)
    exact hbw
   ·exact⟨_,_,_,_,_,rfl,br.zero _⟩
  ·simp only[Bool.not_false,Bool.not_true,Bool.and_self,Bool.and_false,Bool.and_true,Bool.false_and,Bool.true_and] at CZ CY
   go_enter func178,ntmps178
   go_wp2_with fail
   refine(CY _).mono ?_
   rintro _ w1 ⟨rfl,hb1⟩
   have Q0:=(hb1.block _ (aGe (lO _ _ _ _ _)).1).trans (lO _ _ _ _ _)
   have Q1:=(hb1.block _ (aGe (lP _ _ _ _ _)).1).trans (lP _ _ _ _ _)
   have Q2:=(hb1.block _ (aGe (lf _ _ _ _ _)).1).trans (lf _ _ _ _ _)
   have Q3:=(hb1.block _ (aGe (lg _ _ _ _ _)).1).trans (lg _ _ _ _ _)
   have a0:=ae Q0 0 rfl
   have a1:=ae Q0 1 rfl
   have a2:=ae Q0 2 rfl
   have a3:=ae Q0 3 rfl
   have a4:=ae Q0 4 rfl
   have a5:=ae Q0 5 rfl
   have b0:=ae Q1 0 rfl
   have b1:=ae Q1 1 rfl
   have b2:=ae Q1 2 rfl
   have b3:=ae Q1 3 rfl
   have b4:=ae Q1 4 rfl
   have b5:=ae Q1 5 rfl
   have c0:=ae Q2 0 rfl
   have c1:=ae Q2 1 rfl
   have c2:=ae Q2 2 rfl
   have c3:=ae Q2 3 rfl
   have c4:=ae Q2 4 rfl
   have c5:=ae Q2 5 rfl
   have d0:=ae Q3 0 rfl
   have d1:=ae Q3 1 rfl
   have d2:=ae Q3 2 rfl
   have d3:=ae Q3 3 rfl
   have d4:=ae Q3 4 rfl
   have d5:=ae Q3 5 rfl
   have fc0:=ah Q2 0
   have fc1:=ah Q2 1
   have fc2:=ah Q2 2
   have fc3:=ah Q2 3
   have fc4:=ah Q2 4
   have fc5:=ah Q2 5
   have fd1:=ah Q3 1
   have fd2:=ah Q3 2
   have hbw:=ac (gY w _ _ _ _) hb1
   clear CZ CY hb1 Q0 Q1 Q2 Q3
   go_wp2
   refine bodyPost_ret (v:=.agg #[.bool (!(pn == qn)),.bool true,.bool false,.bool false,.slice none 0 0,G6 0]) (by simp[results,results178,go_sem,c0,c1,c2,c3,c4,c5]) rfl ⟨_,rfl,?_,?_⟩
   ·iterate 7 (refine Below.setCell ?_ (by dsimp only;omega) _)
    exact hbw
   ·exact⟨_,_,_,_,_,rfl,br.zero _⟩
 ·simp only[Bool.not_false,Bool.not_true,Bool.and_self,Bool.and_false,Bool.and_true,Bool.false_and,Bool.true_and] at CZ CY
  go_enter func178,ntmps178
  go_wp2_with fail
  refine(CY _).mono ?_
  rintro _ w1 ⟨rfl,hb1⟩
  have Q0:=(hb1.block _ (aGe (lO _ _ _ _ _)).1).trans (lO _ _ _ _ _)
  have Q1:=(hb1.block _ (aGe (lP _ _ _ _ _)).1).trans (lP _ _ _ _ _)
  have Q2:=(hb1.block _ (aGe (lf _ _ _ _ _)).1).trans (lf _ _ _ _ _)
  have Q3:=(hb1.block _ (aGe (lg _ _ _ _ _)).1).trans (lg _ _ _ _ _)
  have a0:=ae Q0 0 rfl
  have a1:=ae Q0 1 rfl
  have a2:=ae Q0 2 rfl
  have a3:=ae Q0 3 rfl
  have a4:=ae Q0 4 rfl
  have a5:=ae Q0 5 rfl
  have b0:=ae Q1 0 rfl
  have b1:=ae Q1 1 rfl
  have b2:=ae Q1 2 rfl
  have b3:=ae Q1 3 rfl
  have b4:=ae Q1 4 rfl
  have b5:=ae Q1 5 rfl
  have c0:=ae Q2 0 rfl
  have c1:=ae Q2 1 rfl
  have c2:=ae Q2 2 rfl
  have c3:=ae Q2 3 rfl
  have c4:=ae Q2 4 rfl
  have c5:=ae Q2 5 rfl
  have d0:=ae Q3 0 rfl
  have d1:=ae Q3 1 rfl
  have d2:=ae Q3 2 rfl
  have d3:=ae Q3 3 rfl
  have d4:=ae Q3 4 rfl
  have d5:=ae Q3 5 rfl
  have fc0:=ah Q2 0
  have fc1:=ah Q2 1
  have fc2:=ah Q2 2
  have fc3:=ah Q2 3
  have fc4:=ah Q2 4
  have fc5:=ah Q2 5
  have fd1:=ah Q3 1
  have fd2:=ah Q3 2
  have hbw:=ac (gY w _ _ _ _) hb1
  clear CY hb1
  go_wp2_with fail
  refine(CZ _).mono ?_
  rintro _ w2 ⟨rfl,hb2⟩
  have R0:=(hb2.block _ (aGe (Q0)).1).trans (Q0)
  have R1:=(hb2.block _ (aGe (Q1)).1).trans (Q1)
  have R2:=(hb2.block _ (aGe (Q2)).1).trans (Q2)
  have R3:=(hb2.block _ (aGe (Q3)).1).trans (Q3)
  have a0':=ae R0 0 rfl
  have a1':=ae R0 1 rfl
  have a2':=ae R0 2 rfl
  have a3':=ae R0 3 rfl
  have a4':=ae R0 4 rfl
  have a5':=ae R0 5 rfl
  have b0':=ae R1 0 rfl
  have b1':=ae R1 1 rfl
  have b2':=ae R1 2 rfl
  have b3':=ae R1 3 rfl
  have b4':=ae R1 4 rfl
  have b5':=ae R1 5 rfl
  have c0':=ae R2 0 rfl
  have c1':=ae R2 1 rfl
  have c2':=ae R2 2 rfl
  have c3':=ae R2 3 rfl
  have c4':=ae R2 4 rfl
  have c5':=ae R2 5 rfl
  have d0':=ae R3 0 rfl
  have d1':=ae R3 1 rfl
  have d2':=ae R3 2 rfl
  have d3':=ae R3 3 rfl
  have d4':=ae R3 4 rfl
  have d5':=ae R3 5 rfl
  have fc0':=ah R2 0
  have fc1':=ah R2 1
  have fc2':=ah R2 2
  have fc3':=ah R2 3
  have fc4':=ah R2 4
  have fc5':=ah R2 5
  have fd1':=ah R3 1
  have fd2':=ah R3 2
  have hbw2:=ac hbw hb2
  clear CZ hb2 hbw Q0 Q1 Q2 Q3 R0 R1 R2 R3
  go_wp2
  refine bodyPost_ret (v:=.agg #[.bool (!(pn == qn)),.bool false,.bool true,.bool false,.slice none 0 0,G6 0]) (by simp[results,results178,go_sem,c0',c1',c2',c3',c4',c5']) rfl ⟨_,rfl,?_,?_⟩
  ·iterate 7 (refine Below.setCell ?_ (by dsimp only;omega) _)
   exact hbw2
  ·exact⟨_,_,_,_,_,rfl,br.zero _⟩
end Go.Proofs.YtjjihmnbdeeedaaGreatDoor
