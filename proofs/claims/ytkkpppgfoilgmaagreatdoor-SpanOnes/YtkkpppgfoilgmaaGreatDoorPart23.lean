/- Parts of the proof. -/
import Derived.Test.YtkkpppgfoilgmaaGreatDoorPart19
import Derived.Test.YtkkpppgfoilgmaaGreatDoorPart20
import Derived.Test.YtkkpppgfoilgmaaGreatDoorPart21
import Derived.Test.YtkkpppgfoilgmaaGreatDoorPart22
import Derived.Test.YtkkpppgfoilgmaaGreatDoorPart5
import Derived.Test.YtkkpppgfoilgmaaGreatDoorPart8
import Derived.Test.YtkkpppgfoilgmaaGreatDoorPart17
import Derived.Test.YtkkpppgfoilgmaaGreatDoorPart16
import Derived.Test.YtkkpppgfoilgmaaGreatDoorPart7
import Derived.Test.YtkkpppgfoilgmaaGreatDoorPart9
import Derived.Test.YtkkpppgfoilgmaaGreatDoorPart12
set_option maxRecDepth 100000
set_option maxHeartbeats 8000000
set_option linter.unusedVariables false
set_option linter.unusedSimpArgs false
namespace Go.Proofs.YtkkpppgfoilgmaaGreatDoor
open Go Go.Proofs.Tryz Go.RowKit Go.Proofs.YtkkpppgfoilgmaaGreatDoor.M
theorem xA (way:Int) (hw:1<=way∧way<=2) (ng:Bool) (ao:Option Addr) (n cap:Nat) (d:Nat->Int) (exp:Int) (more:Bool) (w:World) (h:aG w ao n cap d) (nb:Nat) (E lw:Int) (K:Nat) (hf rs:Bool) (l:Int) (F:nP ao n cap d exp more nb E lw K hf rs l) :
  Calls prog 119 #[gz,.bool ng,.slice ao n cap,.int .i64 exp,.bool more,.int .i64 way] w fun e w'=>e=.returned (.tuple #[.int .i64 (bg way ng hf rs K E).1,.bool (bg way ng hf rs K E).2])∧Below w.heap.size w w':=by
 have h4:way=1∨way=2:=by omega
 rcases h4 with rfl|rfl<;>cases ng
 ·exact Bg ao n cap d exp more w h nb E lw K hf rs l F
 ·exact Bh ao n cap d exp more w h nb E lw K hf rs l F
 ·exact Bi ao n cap d exp more w h nb E lw K hf rs l F
 ·exact Bj ao n cap d exp more w h nb E lw K hf rs l F
theorem zv (ao:Option Addr) (n cap:Nat) (d:Nat->Int) (exp:Int) (more:Bool) (hd:bt d n) (hn:n<=10000) (h0:0<n) (he:-1300000<=exp∧exp<=1300000) (hc:more=true->0<cE 53 (-1074) (val d n).toNat exp-exp) :
  ∃ nb l,nP ao n cap d exp more nb (cE 53 (-1074) (val d n).toNat exp) (cE 53 (-1074) (val d n).toNat exp-exp) (rU (val d n).toNat (cE 53 (-1074) (val d n).toNat exp-exp)) (cH (val d n).toNat (cE 53 (-1074) (val d n).toNat exp-exp)) (cR (val d n).toNat more (cE 53 (-1074) (val d n).toNat exp-exp)) l:=by
 have hV:=aJ hd.1
 have hpos:0<val d n:=by
  have h1:=cI hd.1 h0 hd.2
  have:=bp (n-1)
  omega
 obtain⟨M,hM⟩:∃ M:Nat,val d n=M:=⟨(val d n).toNat,by omega⟩
 have hM0:M≠0:=by omega
 have hMt:(val d n).toNat=M:=by omega
 rw[hMt] at hc ⊢
 obtain⟨b0,b1,b2⟩:=kz hM0
 have hbl:aC (M:Int)<=300000:=by
  refine Nat.le_trans (cw (k:=30*n) ?_) (by omega)
  rw[<- cr,<- hM]
  exact bz hd.1
 have hU:=(sD (sz:=53) (lowE:=-1074) (exp:=exp) (by decide) hM0).1
 rw[show(2:Nat)^(53:Int).toNat=9007199254740992 by decide] at hU
 have hE:cE 53 (-1074) M exp=max ((aC (M:Int):Int)+exp-53) (-1074):=rfl
 obtain⟨l,hl⟩:∃ l,jT (M:Int) l:=by
  obtain⟨k,hk⟩:=gF (M:=(M:Int)) (by omega)
  exact⟨k,.inr ⟨k,rfl,hk⟩⟩
 have hl0:0<=l∧l<=300000:=by
  rcases hl with⟨h,_⟩|⟨k,rfl,m,hk⟩
  ·omega
  ·refine⟨by omega,?_⟩
   have hm:0<=m:=by
    rcases Int.lt_or_le m 0 with q|q
    ·have:=Int.mul_neg_of_neg_of_pos (show 2*m+1<0 by omega) (aF k)
     omega
    ·exact q
   have h1:(2:Int)^k<=M:=by
    rw[hk]
    have:=Int.mul_le_mul_of_nonneg_right (show 1<=2*m+1 by omega) (Int.le_of_lt (aF k))
    omega
   have:=m9 h1
   omega
 refine⟨aC (M:Int),l,⟨by omega,he,by omega,by omega,rfl,hU,by omega,?_,?_,?_,?_,?_,?_,?_,?_,?_,?_,?_⟩⟩
 ·intro h
  exact⟨by unfold cR;rw[h];rfl,hc h⟩
 ·intro h h1
  unfold cR
  rw[h,decide_eq_false (by omega)]
  rfl
 ·intro h h1
  unfold cR
  obtain⟨s,hs⟩:∃ s:Nat,cE 53 (-1074) M exp-exp-1=s:=⟨(cE 53 (-1074) M exp-exp-1).toNat,by omega⟩
  rw[h,decide_eq_true h1,hs,Int.toNat_natCast,Bool.false_or,Bool.true_and]
  have:=xx (s:=s) hl hM0
  by_cases q:l<s
  ·rw[decide_eq_true q,decide_eq_true (this.1 ⟨hl0.1,q⟩)]
  ·rw[decide_eq_false q,decide_eq_false (fun q2=>q (this.2 q2).2)]
 ·intro ts t w
  rw[run_max_int2,hE]
  congr 2
  omega
 ·intro ts t w
  rw[run_max_int2]
  congr 2
  omega
 ·intro W hR
  have:=n7 ao n cap d W hR hd (by omega)
  rwa [hM] at this
 ·intro W hR
  obtain⟨k,hk⟩:∃ k:Nat,max (cE 53 (-1074) M exp-exp) 0=k:=⟨(max (cE 53 (-1074) M exp-exp) 0).toNat,by omega⟩
  rw[hk]
  refine(pN ao n cap k d W hR hd.1 (by omega) (by omega)).mono ?_
  rintro e w' ⟨v,rfl,hA⟩
  obtain⟨so,sn,sc,rfl⟩:=hA.num.shape
  refine⟨so,sn,sc,rfl,hA.below,fun h=>?_⟩
  have h2:=hA.num
  rw[hM] at h2
  have h3:((M:Int)/2^k)=((rU M (cE 53 (-1074) M exp-exp):Nat):Int):=by
   unfold rU
   by_cases q:cE 53 (-1074) M exp-exp<=0
   ·rw[if_pos q,show k=0 by omega,show(-(cE 53 (-1074) M exp-exp)).toNat=0 by omega]
    simp
   ·rw[if_neg q,show(cE 53 (-1074) M exp-exp).toNat=k by omega]
    simp
  rwa [h3] at h2
 ·intro h W hR
  obtain⟨k,hk⟩:∃ k:Nat,-(cE 53 (-1074) M exp-exp)=k:=⟨(-(cE 53 (-1074) M exp-exp)).toNat,by omega⟩
  rw[hk]
  refine(iS ao n cap k d W hR hd.1 (by omega) (by omega)).mono ?_
  rintro e w' ⟨v,rfl,hA⟩
  obtain⟨so,sn,sc,rfl⟩:=hA.num.shape
  refine⟨so,sn,sc,rfl,hA.below,?_⟩
  have h2:=hA.num
  rw[hM] at h2
  have h3:((M:Int)*2^k)=((rU M (cE 53 (-1074) M exp-exp):Nat):Int):=by
   unfold rU
   rw[if_pos (by omega),hk,Int.toNat_natCast]
   simp
  rwa [h3] at h2
 ·intro W hR
  by_cases q:0<cE 53 (-1074) M exp-exp
  ·obtain⟨s,hs⟩:∃ s:Nat,cE 53 (-1074) M exp-exp-1=s:=⟨(cE 53 (-1074) M exp-exp-1).toNat,by omega⟩
   have:=wc ao n cap d W hR hd (by omega) s (by omega)
   rw[hM] at this
   unfold cH
   rw[decide_eq_true q,hs,Int.toNat_natCast,Bool.true_and]
   exact this
  ·unfold cH
   rw[decide_eq_false q,Bool.false_and]
   exact xz ao n cap _ W (by omega) (by omega)
 ·intro W hR
  refine(mh ao n cap d W hR hd.1 (by omega)).mono ?_
  rintro e w' ⟨l',rfl,h1,h2⟩
  rw[hM] at h1
  rw[qV h1 hl]
  exact⟨rfl,h2⟩
 ·intro U u0 u1
  refine⟨_,rfl,?_,fun W=>rd U _ W (by unfold au;omega) (by unfold au;omega)⟩
  have:=xD (mag:=U) (exp:=cE 53 (-1074) M exp) (by unfold au;omega)
  unfold jp
  simp only[Bool.and_false,Bool.false_eq_true,if_false]
  exact this
def vw (way:Int) (ng:Bool) (A:Int) (p:Int):Prop:=∃ r0 left,co A r0 left∧p=aw ng (aN way ng r0 left)
theorem vw.unique {way:Int} {ng:Bool} {A p q:Int} (h:vw way ng A p) (k:vw way ng A q):p=q:=by
 obtain⟨r0,l,h1,rfl⟩:=h
 obtain⟨s0,m,k1,rfl⟩:=k
 obtain⟨e1,e2⟩:=h1.unique k1
 rw[e1,e2]
theorem zw (way:Int) (hw:1<=way∧way<=2) (ng:Bool) {M:Nat} {exp:Int} {more:Bool} (hc:more=true->0<cE 53 (-1074) M exp-exp) :
  bg way ng (cH M (cE 53 (-1074) M exp-exp)) (cR M more (cE 53 (-1074) M exp-exp)) (rU M (cE 53 (-1074) M exp-exp)) (cE 53 (-1074) M exp) =
   (if cO 53 (-1074) 1024 way ng M exp more then cS (-9223372036854775808) ng+(if aW way ng true 3 then 9218868437227405312 else 9218868437227405311) else cS (-9223372036854775808) ng+jp false (cU 53 (-1074) way ng M exp more) (cE 53 (-1074) M exp),cO 53 (-1074) 1024 way ng M exp more||(decide (rL M more (cE 53 (-1074) M exp-exp)≠0))):=by
 have hL:=xv (M:=M) hc
 unfold cO cU bg
 rw[hL]
 generalize cE 53 (-1074) M exp=E at *
 generalize rU M (E-exp)=K at *
 generalize cH M (E-exp)=hf at *
 generalize cR M more (E-exp)=rs at *
 have hA:bQ way ng hf rs K=aW way ng (decide (K % 2=1)) (if hf then (if rs then 3 else 2) else (if rs then 1 else 0)):=by
  unfold bQ aW
  have h4:way=0∨way=1∨way=2∨way=3:=by omega
  rcases h4 with rfl|rfl|rfl|rfl<;>cases ng<;>cases hf<;>cases rs<;>simp
 have hB:(way=0∨(way=2∧ng=false)∨(way=1∧ng=true))↔aW way ng true 3=true:=by
  unfold aW
  have h4:way=0∨way=1∨way=2∨way=3:=by omega
  rcases h4 with rfl|rfl|rfl|rfl<;>cases ng<;>simp
 simp only
 rw[hA]
 generalize aW way ng (decide (K % 2=1)) (if hf then (if rs then 3 else 2) else (if rs then 1 else 0))=R
 have e52:(2:Nat)^((53:Int).toNat-1)=4503599627370496:=by decide
 rw[e52]
 generalize K+(if R=true then 1 else 0)=U
 have hodd:(decide ((if hf then (if rs then (3:Int) else 2) else (if rs then 1 else 0))≠0))=(hf||rs):=by cases hf<;>cases rs<;>rfl
 rw[hodd]
 unfold cS
 by_cases c:4503599627370496<=U∧1024<(aC (U:Int):Int)+E
 ·rw[if_pos c,decide_eq_true c.1,decide_eq_true c.2,Bool.and_self,if_pos rfl,Bool.true_or]
  congr 2
  by_cases q:aW way ng true 3=true
  ·rw[if_pos (hB.2 q),if_pos q]
  ·rw[if_neg (fun q2=>q (hB.1 q2)),if_neg q]
 ·rw[if_neg c]
  have:(decide (4503599627370496<=U)&&decide (1024<(aC (U:Int):Int)+E))=false:=by
   by_cases c1:4503599627370496<=U
   ·rw[decide_eq_false (p:=1024<_) (fun c2=>c ⟨c1,c2⟩),Bool.and_false]
   ·rw[decide_eq_false c1,Bool.false_and]
  rw[this]
  simp only[Bool.false_eq_true,if_false,Bool.false_or]
theorem vx (way:Int) (hw:1<=way∧way<=2) (ng:Bool) (ao:Option Addr) (n cap:Nat) (d:Nat->Int) (exp:Int) (more:Bool) (w:World) (h:aG w ao n cap d) (hd:bt d n) (hn:n<=10000) (h0:0<n) (he:-1300000<=exp∧exp<=1300000) {A:Int} (hA:kO A (val d n).toNat exp more) (hc:more=true->2^60<=(val d n).toNat) :
  Calls prog 119 #[gz,.bool ng,.slice ao n cap,.int .i64 exp,.bool more,.int .i64 way] w fun e w'=>∃ p o r0 left,e=.returned (.tuple #[.int .i64 p,.bool o])∧Below w.heap.size w w'∧co A r0 left∧p=aw ng (aN way ng r0 left)∧o=(decide (left≠0)||decide (9218868437227405312<=(r0:Int))):=by
 have hpos:0<val d n:=by
  have h1:=cI hd.1 h0 hd.2
  have:=bp (n-1)
  omega
 have hM0:(val d n).toNat≠0:=by omega
 have hc2:more=true->0<cE 53 (-1074) (val d n).toNat exp-exp:=fun q=>by
  have h1:=hc q
  obtain⟨b0,b1,b2⟩:=kz hM0
  have h2:60<aC (((val d n).toNat:Nat):Int):=(Nat.pow_lt_pow_iff_right (by decide:1<2)).1 (Nat.lt_of_le_of_lt h1 b2)
  unfold cE
  omega
 obtain⟨nb,l,F⟩:=zv ao n cap d exp more hd hn h0 he hc2
 refine(xA way hw ng ao n cap d exp more w h nb _ _ _ _ _ l F).mono ?_
 rintro e w' ⟨rfl,hb⟩
 obtain⟨r0,left,s1,s2,s3⟩:=xy (way:=way) (ng:=ng) hA hM0 (by omega) hc
 have hT:=zw way hw ng (M:=(val d n).toNat) (exp:=exp) hc2
 rw[s2,s3] at hT
 rw[hT]
 exact⟨_,_,r0,left,rfl,hb,s1,rfl,rfl⟩
theorem Cw (way:Int) (hw:1<=way∧way<=2) {g:Bool} {so:Option Addr} {sn sc:Nat} {e S:Int} {w:World} (h:aX w (.agg #[.bool g,.slice so sn sc,.int .i64 e]) S) (ok:b7 S) (h0:S≠0) :
  Calls prog 119 #[gz,.bool g,.slice so sn sc,.int .i64 e,.bool false,.int .i64 way] w fun x w'=>∃ p o,x=.returned (.tuple #[.int .i64 p,.bool o])∧Below w.heap.size w w'∧vw way (decide (S<0)) S.natAbs p:=by
 obtain⟨ng,s,m,e',h1,hy,ao,n,cap,d,h2,hR,hN,hv⟩:=h
 simp only[Value.agg.injEq,Array.mk.injEq,List.cons.injEq,Value.bool.injEq,Value.int.injEq,true_and,and_true] at h1
 obtain⟨rfl,rfl,rfl⟩:=h1
 simp only[Value.slice.injEq] at h2
 obtain⟨rfl,rfl,rfl⟩:=h2
 obtain⟨k1,k2,k3⟩:=hy.ok.1 ok
 have hm0:m≠0:=fun q=>h0 (hy.eq_zero.2 q)
 have hmp:0<m:=by have:=hy.nonneg;omega
 have hsn:sn<=2000:=by
  have hNN:aT w (.slice so sn sc) m:=⟨_,_,_,_,rfl,hR,hN,hv⟩
  exact hNN.len k1
 have hs0:0<sn:=by
  rcases Nat.eq_zero_or_pos sn with q|q
  ·subst q
   exact absurd (hv.symm.trans rfl) hm0
  ·exact q
 have hng:g=decide (S<0):=by
  have:=hy.neg_iff
  cases g
  ·symm;exact decide_eq_false (fun q=>by simpa using this.2 q)
  ·symm;exact decide_eq_true (this.1 rfl)
 have hA:kO (S.natAbs:Int) (val d sn).toNat e false:=by
  have e1:(((val d sn).toNat:Nat):Int)=m:=by omega
  have e2:=pe hy
  unfold kO
  rw[e1,e2,Int.add_mul,Int.one_mul,e2]
  have:=bD e
  refine⟨Int.le_refl _,by omega,by simp⟩
 refine(vx way hw g so sn sc d e false w hR hN (by omega) hs0 (by omega) hA (fun q=>by cases q)).mono ?_
 rintro x w' ⟨p,o,r0,left,rfl,hb,h4,h5,h6⟩
 exact⟨p,o,rfl,hb,r0,left,h4,by rw[<- hng];exact h5⟩
theorem zy {w:World} {g:Bool} {so:Option Addr} {sn sc:Nat} {e S:Int} (h:aX w (.agg #[.bool g,.slice so sn sc,.int .i64 e]) S):(sn=0↔S=0)∧sn<=9223372036854775807:=by
 obtain⟨ng,s,m,e',h1,hy,ao,n,cap,d,h2,hR,hN,hv⟩:=h
 simp only[Value.agg.injEq,Array.mk.injEq,List.cons.injEq,Value.bool.injEq,Value.int.injEq,true_and,and_true] at h1
 obtain⟨rfl,rfl,rfl⟩:=h1
 simp only[Value.slice.injEq] at h2
 obtain⟨rfl,rfl,rfl⟩:=h2
 have hm:=hR.max
 have hl:=hR.le
 refine⟨?_,by omega⟩
 rw[hy.eq_zero]
 constructor
 ·intro q
  subst q
  exact hv.symm.trans rfl
 ·intro q
  rcases Nat.eq_zero_or_pos sn with z|z
  ·exact z
  ·have h1:=cI hN.1 z hN.2
   have:=bp (sn-1)
   omega
theorem gw.both {w w':World} {A B:Int} {x y v:Value} (h:gw w w' A B x y v) (hx:aX w x A) (hy:aX w y B):aX w' v (A+B)∧Below w.heap.size w w':=by
 obtain⟨hb,h|⟨h1,h2⟩|⟨h1,h2⟩⟩:=h
 ·exact⟨h.num,hb⟩
 ·subst h2;rw[h1,Int.zero_add];exact⟨hy.keeps hb,hb⟩
 ·subst h2;rw[h1,Int.add_zero];exact⟨hx.keeps hb,hb⟩
theorem aX.shape {w:World} {v:Value} {V:Int} (h:aX w v V):∃ g so sn sc e,v=.agg #[.bool g,.slice so sn sc,.int .i64 e]:=by
 obtain⟨ng,s,m,e',h1,hy,ao,n,cap,d,h2,hR,hN,hv⟩:=h
 subst h2
 exact⟨_,_,_,_,_,h1⟩
def C8 (k s:Nat) (g:Bool) (so:Option Addr) (sn sc:Nat) (e:Int) (W:World):Prop :=
 (W.cell? ⟨k,0,none⟩=some (.int .i64 53)∧W.cell? ⟨k,1,none⟩=some (.int .i64 (-1074))∧W.cell? ⟨k,2,none⟩=some (.int .i64 1024)∧W.cell? ⟨k,3,none⟩=some (.int .i64 9218868437227405312)∧W.cell? ⟨k,4,none⟩=some (.int .i64 (-9223372036854775808))) ∧
 W.cell? ⟨s,0,none⟩=some (.bool g)∧W.cell? ⟨s,1,none⟩=some (.slice so sn sc)∧W.cell? ⟨s,2,none⟩=some (.int .i64 e)
theorem C8.keeps {k s:Nat} {g:Bool} {so:Option Addr} {sn sc:Nat} {e:Int} {W W':World} (h:C8 k s g so sn sc e W) (hb:Below W.heap.size W W'):C8 k s g so sn sc e W':=by
 obtain⟨⟨h0,h1,h2,h3,h4⟩,h5,h6,h7⟩:=h
 exact⟨⟨az h0 hb,az h1 hb,az h2 hb,az h3 hb,az h4 hb⟩,az h5 hb,az h6 hb,az h7 hb⟩
theorem Pt.keeps {w w':World} {ng na ni:Bool} {V:Int} {v:Value} (h:Pt w ng na ni V v) (hb:Below w.heap.size w w'):Pt w' ng na ni V v:=by
 obtain⟨xg,xo,xn,xc,xe,h1,h2⟩:=h
 exact⟨xg,xo,xn,xc,xe,h1,h2.keeps hb⟩
theorem kD (b:Int):Bd 4000 (aM b):=by
 by_cases h:aB b=true
 ·exact nD h
 ·rw[(zr h).2]
  exact⟨0,by simp,by have:=aF (2*4000);omega,aF _⟩
def K5 (k:Nat) (W:World):Prop:=W.cell? ⟨k,0,none⟩=some (.int .i64 53)∧W.cell? ⟨k,1,none⟩=some (.int .i64 (-1074))∧W.cell? ⟨k,2,none⟩=some (.int .i64 1024)∧W.cell? ⟨k,3,none⟩=some (.int .i64 9218868437227405312)∧W.cell? ⟨k,4,none⟩=some (.int .i64 (-9223372036854775808))
theorem K5.keeps {k:Nat} {W W':World} (h:K5 k W) (hb:Below W.heap.size W W'):K5 k W':=by
 obtain⟨h0,h1,h2,h3,h4⟩:=h
 exact⟨az h0 hb,az h1 hb,az h2 hb,az h3 hb,az h4 hb⟩
def Bk (k q:Nat) (n0 n1 n2 n3:Bool) (xo:Option Addr) (xn xc:Nat) (xe:Int) (W:World):Prop:=(W.cell? ⟨k,0,none⟩=some (.int .i64 53)∧W.cell? ⟨k,1,none⟩=some (.int .i64 (-1074))∧W.cell? ⟨k,2,none⟩=some (.int .i64 1024)∧W.cell? ⟨k,3,none⟩=some (.int .i64 9218868437227405312)∧W.cell? ⟨k,4,none⟩=some (.int .i64 (-9223372036854775808)))∧W.cell? ⟨q,0,none⟩=some (.bool n0)∧W.cell? ⟨q,1,none⟩=some (.bool n1)∧W.cell? ⟨q,2,none⟩=some (.bool n2)∧W.cell? ⟨q,3,none⟩=some (.bool n3)∧W.cell? ⟨q,4,none⟩=some (.slice xo xn xc)∧W.cell? ⟨q,5,none⟩=some (.int .i64 xe)
theorem Bk.keeps {k q:Nat} {n0 n1 n2 n3:Bool} {xo:Option Addr} {xn xc:Nat} {xe:Int} {W W':World} (h:Bk k q n0 n1 n2 n3 xo xn xc xe W) (hb:Below W.heap.size W W'):Bk k q n0 n1 n2 n3 xo xn xc xe W':=by
 obtain⟨⟨h0,h1,h2,h3,h4⟩,g0,g1,g2,g3,g4,g5⟩:=h
 exact⟨⟨az h0 hb,az h1 hb,az h2 hb,az h3 hb,az h4 hb⟩,az g0 hb,az g1 hb,az g2 hb,az g3 hb,az g4 hb,az g5 hb⟩
theorem Bl {w:World} {xg:Bool} {xo:Option Addr} {xn xc:Nat} {xe V:Int} (hx:aX w (.agg #[.bool xg,.slice xo xn xc,.int .i64 xe]) V) :
  ∃ yg,aX w (.agg #[.bool yg,.slice xo xn xc,.int .i64 xe]) (-V)∧∀ W,Calls prog 74 #[.agg #[.bool xg,.slice xo xn xc,.int .i64 xe]] W fun r w'=>r=.returned (.agg #[.bool yg,.slice xo xn xc,.int .i64 xe])∧Below W.heap.size W w':=by
 obtain⟨zx,mx⟩:=zy hx
 refine⟨if xn=0 then xg else !xg,?_,fun W=>lu ⟨xg,xo,xn,xc,fun _=>0,xe⟩ W mx⟩
 obtain⟨ng,s,m,e',h1,hy,hN⟩:=hx
 simp only[Value.agg.injEq,Array.mk.injEq,List.cons.injEq,Value.bool.injEq,Value.int.injEq,true_and,and_true] at h1
 obtain⟨rfl,rfl,rfl⟩:=h1
 by_cases h0:xn=0
 ·rw[if_pos h0]
  have hV:=zx.1 h0
  subst hV
  exact⟨_,_,m,_,rfl,hy,hN⟩
 ·rw[if_neg h0]
  have hm:m≠0:=fun q=>h0 (zx.2 (hy.eq_zero.2 q))
  exact⟨_,_,m,_,rfl,hy.neg (by have:=hy.nonneg;omega),hN⟩
end Go.Proofs.YtkkpppgfoilgmaaGreatDoor
