/- Parts of the proof. -/
import Derived.Test.YtkkpppgfoilgmaaGreatDoorPart12
import Derived.Test.YtkkpppgfoilgmaaGreatDoorPart9
import Derived.Test.YtkkpppgfoilgmaaGreatDoorPart13
set_option maxRecDepth 100000
set_option maxHeartbeats 8000000
set_option linter.unusedVariables false
set_option linter.unusedSimpArgs false
namespace Go.Proofs.YtkkpppgfoilgmaaGreatDoor
open Go Go.Proofs.Tryz Go.RowKit Go.Proofs.YtkkpppgfoilgmaaGreatDoor.M
structure En where
 i:Int
 v:Int
def En.le (a b:En):Prop:=a.i<b.i∨(a.i=b.i∧a.v<=b.v)
def En.ok (a:En):Prop:=a.i=0∨((a.i=1∨a.i=-1)∧a.v=0)
def bM (a:En):Int:=if 0<a.i then 9218868437227405312 else if a.i<0 then -4503599627370496 else dZ a.v
def bN (a:En):Int:=if 0<a.i then 9218868437227405312 else if a.i<0 then -4503599627370496 else d6 a.v
def ah (p:Int):En:=if rg p=9218868437227405312 then ⟨if p<0 then -1 else 1,0⟩ else ⟨0,aM p⟩
theorem En.eq {a b:En} (h:a.i=b.i) (k:a.v=b.v):a=b:=by cases a;cases b;cases h;cases k;rfl
theorem En.le_refl (a:En):a.le a:=.inr ⟨rfl,Int.le_refl _⟩
theorem En.le_trans {a b c:En} (h:a.le b) (k:b.le c):a.le c:=by
 unfold En.le at *
 omega
theorem En.le.le_trans {a b c:En} (h:a.le b) (k:b.le c):a.le c:=En.le_trans h k
theorem En.le_total (a b:En):a.le b∨b.le a:=by
 unfold En.le
 omega
theorem nJ (V:Int):∃ (ng:Bool) (f:Int->Int × Bool),iU V ng f:=by
 by_cases h0:V=0
 ·subst h0
  exact⟨false,fun way=>(aw (false&&decide (0<aN way false 0 0)) (aN way false 0 0),decide ((0:Int)≠0)||decide (9218868437227405312<=((0:Nat):Int))),0,0,0,rfl,(fun h=>by cases h),kY,fun way=>rfl⟩
 ·obtain⟨g,A,r0,left,e,hA,hR,_,_⟩:=mS h0
  exact⟨g,fun way=>(aw (g&&decide (0<aN way g r0 left)) (aN way g r0 left),decide (left≠0)||decide (9218868437227405312<=(r0:Int))),A,r0,left,e,fun _=>hA,hR,fun way=>rfl⟩
theorem fd (V:Int):nn (dZ V)∧nn (d6 V):=by
 obtain⟨ng,f,h⟩:=nJ V
 obtain⟨c1,c2⟩:=kj h
 obtain⟨A,r0,left,e,hn,hR,hf⟩:=h
 obtain⟨_,a2,a3⟩:=iU.key (V:=V) (A:=A) (hf 1)
 obtain⟨_,b2,b3⟩:=iU.key (V:=V) (A:=A) (hf 2)
 rw[c1] at a2 a3
 rw[c2] at b2 b3
 exact⟨⟨a3,a2⟩,⟨b3,b2⟩⟩
theorem qp {a b:Int} (ha:nn a) (hb:nn b) (h:bP a b=false):aj b<=aj a:=by
 unfold bP at h
 simp[ha.2,hb.2] at h
 exact h
theorem AV {V U:Int} (h:V<=U):aj (dZ V)<=aj (dZ U)∧aj (d6 V)<=aj (d6 U):=by
 obtain⟨ng,f,k⟩:=nJ V
 obtain⟨mg,g,l⟩:=nJ U
 obtain⟨c1,c2⟩:=kj k
 obtain⟨d1,d2⟩:=kj l
 have m1:=r7 k l h 1
 have m2:=r7 k l h 2
 rw[c1,d1] at m1
 rw[c2,d2] at m2
 exact⟨qp (fd U).1 (fd V).1 m1,qp (fd U).2 (fd V).2 m2⟩
theorem jC:nn 9218868437227405312∧nn (-4503599627370496):=⟨⟨by unfold au;omega,by decide⟩,⟨by unfold au;omega,by decide⟩⟩
theorem jD {p:Int} (h:nn p):-9218868437227405312<=aj p∧aj p<=9218868437227405312:=by
 have:=fH h
 unfold rg at this
 unfold aj
 split at this<;>(split<;>omega)
theorem tE (a:En):nn (bM a)∧nn (bN a):=by
 unfold bM bN
 split
 ·exact⟨jC.1,jC.1⟩
 ·split
  ·exact⟨jC.2,jC.2⟩
  ·exact fd _
theorem ms:aj 9218868437227405312=9218868437227405312∧aj (-4503599627370496)=-9218868437227405312:=⟨by decide,by decide⟩
theorem fD {a b:En} (h:a.le b):aj (bM a)<=aj (bM b)∧aj (bN a)<=aj (bN b):=by
 obtain⟨k1,k2⟩:=ms
 have n1:=jD (fd a.v).1
 have n2:=jD (fd a.v).2
 have n3:=jD (fd b.v).1
 have n4:=jD (fd b.v).2
 have m:=fun q=>@AV a.v b.v q
 unfold bM bN
 rcases h with h|⟨h,h'⟩
 ·by_cases p1:0<a.i
  ·have p2:0<b.i:=by omega
   rw[if_pos p1,if_pos p1,if_pos p2,if_pos p2]
   exact⟨Int.le_refl _,Int.le_refl _⟩
  ·by_cases p2:0<b.i
   ·rw[if_neg p1,if_neg p1,if_pos p2,if_pos p2]
    split<;>(rw[k1];first|(rw[k2];omega)|omega)
   ·have p3:a.i<0:=by omega
    rw[if_neg p1,if_neg p1,if_pos p3,if_pos p3,if_neg p2,if_neg p2]
    split<;>(rw[k2];first|omega|skip)
 ·rw[h]
  split
  ·exact⟨Int.le_refl _,Int.le_refl _⟩
  ·split
   ·exact⟨Int.le_refl _,Int.le_refl _⟩
   ·exact m h'
theorem lV (p:Int):aH (aH p)=aH p:=by
 have c1:aH 9221120237041090561=9221120237041090561:=by decide
 have c2:aH 0=0:=by decide
 by_cases h4:aD p=4
 ·have:aH p=9221120237041090561:=by unfold aH;rw[if_pos h4]
  rw[this,c1]
 ·by_cases h0:aD p=0
  ·have:aH p=0:=by unfold aH;rw[if_neg h4,if_pos h0]
   rw[this,c2]
  ·have:aH p=p:=by unfold aH;rw[if_neg h4,if_neg h0]
   rw[this,this]
theorem su (a:En):aH (bM a)=bM a∧aH (bN a)=bN a:=by
 unfold bM bN
 split
 ·exact⟨by decide,by decide⟩
 ·split
  ·exact⟨by decide,by decide⟩
  ·unfold dZ d6
   split
   ·exact⟨by decide,by decide⟩
   ·exact⟨lV _,lV _⟩
theorem oD {p q:Int} (hp:nn p) (hq:nn q) (h:aj p=aj q):aH p=aH q:=by
 by_cases e:p=q
 ·rw[e]
 ·rcases fV hp.1 hq.1 h e with⟨rfl,rfl⟩|⟨rfl,rfl⟩<;>decide
theorem Ci {p:Int} {a:En} (hp:nn p) (h:aj p=aj (bM a)):aH p=bM a:=(oD hp (tE a).1 h).trans (su a).1
theorem Cj {p:Int} {a:En} (hp:nn p) (h:aj p=aj (bN a)):aH p=bN a:=(oD hp (tE a).2 h).trans (su a).2
theorem Ck {p:Int} {a:En} (hp:nn p) (h:aH p=bM a):aj p=aj (bM a):=by rw[<- h,(dY hp).1]
theorem Cl {p:Int} {a:En} (hp:nn p) (h:aH p=bN a):aj p=aj (bN a):=by rw[<- h,(dY hp).1]
theorem AW {p:Int} (hp:au p):p=aw (decide (p<0)) (rg p):=by
 unfold au at hp
 unfold aw rg
 by_cases h:p<0
 ·rw[if_pos h,decide_eq_true h];simp
 ·rw[if_neg h,decide_eq_false h];simp
theorem za {p:Int} (hp:au p) (h:rg p=0):p=0∨p=-9223372036854775808:=by
 unfold rg at h
 split at h<;>omega
theorem iC:aM 0=0∧aM (-9223372036854775808)=0:=by
 refine⟨?_,?_⟩
 ·unfold aM
  rw[show bl 0=0 by decide,show cl 0=false by decide]
  exact Int.zero_mul _
 ·unfold aM
  rw[show bl (-9223372036854775808)=0 by decide]
  show sg (cl (-9223372036854775808)) 0*_=0
  cases cl (-9223372036854775808)<;>exact Int.zero_mul _
theorem jE:dZ 0=0∧d6 0=0:=by unfold dZ d6;rw[if_pos rfl,if_pos rfl];exact⟨rfl,rfl⟩
theorem jr {p:Int} (hp:nn p):bM (ah p)=aH p∧bN (ah p)=aH p:=by
 have hr:=fH hp
 obtain⟨c1,c2⟩:=eY hp.1
 unfold ah
 by_cases hi:rg p=9218868437227405312
 ·rw[if_pos hi]
  have hc:aH p=p:=by
   unfold aH
   rw[if_neg hp.2,if_neg (fun k=>by have:=c2.1 k;omega)]
  rw[hc]
  have h2:=hp.1
  unfold au at h2
  unfold rg at hi
  unfold bM bN
  by_cases h0:p<0
  ·rw[if_pos h0] at hi
   simp only[if_pos h0]
   exact⟨by simp;omega,by simp;omega⟩
  ·rw[if_neg h0] at hi
   simp only[if_neg h0]
   exact⟨by simp;omega,by simp;omega⟩
 ·rw[if_neg hi]
  have hf:aB p=true:=cy hp hi
  unfold bM bN
  simp only[Int.lt_irrefl,if_false]
  by_cases h0:rg p=0
  ·have hz:=za hp.1 h0
   have hc:aH p=0:=by
    unfold aH
    rw[if_neg hp.2,if_pos (c2.2 h0)]
   have hv:aM p=0:=by
    rcases hz with rfl|rfl
    ·exact iC.1
    ·exact iC.2
   rw[hv,hc]
   exact jE
  ·have hc:aH p=p:=by
    unfold aH
    rw[if_neg hp.2,if_neg (fun k=>h0 (c2.1 k))]
   have hv:=fM hp.1 hf
   have hn:((rg p).toNat:Int)=rg p:=Int.toNat_of_nonneg hr.1
   obtain⟨a1,a2⟩:=Dj (g:=decide (p<0)) (r:=(rg p).toNat) (by omega) (by omega)
   rw[<- hv,hn,<- AW hp.1] at a1 a2
   rw[hc]
   exact⟨a1,a2⟩
theorem gv {p:Int} (hp:au p):aj p=if p<0 then-rg p else rg p:=by
 unfold aj rg
 split<;>rfl
theorem Cm {p q:Int} (hp:au p) (hq:au q) (h:aj p<=aj q):iV p<=iV q:=by
 rcases Int.lt_or_eq_of_le h with h|h
 ·exact Int.le_of_lt (yV hp hq h)
 ·by_cases e:p=q
  ·rw[e];exact Int.le_refl _
  ·rcases fV hp hq h e with⟨rfl,rfl⟩|⟨rfl,rfl⟩<;>decide
theorem zb {p q:Int} (hp:au p) (hq:au q) (pp:aB p=true) (pq:aB q=true) (h:aj p<=aj q):aM p<=aM q:=by
 rw[dR hp pp,dR hq pq]
 exact Int.mul_le_mul_of_nonneg_right (Cm hp hq h) (Int.le_of_lt (bD _))
theorem km {p q:Int} (hp:nn p) (hq:nn q) (h:aj p<=aj q):(ah p).le (ah q):=by
 have kp:=gv hp.1
 have kq:=gv hq.1
 have rp:=fH hp
 have rq:=fH hq
 unfold ah
 by_cases ip:rg p=9218868437227405312
 ·by_cases iq:rg q=9218868437227405312
  ·rw[if_pos ip,if_pos iq]
   unfold En.le
   show(if p<0 then (-1:Int) else 1)<(if q<0 then (-1:Int) else 1)∨((if p<0 then (-1:Int) else 1)=(if q<0 then (-1:Int) else 1)∧(0:Int)<=0)
   split at kp<;>split at kq<;>simp_all<;>omega
  ·rw[if_pos ip,if_neg iq]
   unfold En.le
   show(if p<0 then (-1:Int) else 1)<0∨_
   split at kp
   ·rw[if_pos (by assumption)];exact .inl (by decide)
   ·exfalso;split at kq<;>omega
 ·by_cases iq:rg q=9218868437227405312
  ·rw[if_neg ip,if_pos iq]
   unfold En.le
   show 0<(if q<0 then (-1:Int) else 1)∨_
   split at kq
   ·exfalso;split at kp<;>omega
   ·rw[if_neg (by assumption)];exact .inl (by decide)
  ·rw[if_neg ip,if_neg iq]
   exact .inr ⟨rfl,zb hp.1 hq.1 (cy hp ip) (cy hq iq) h⟩
theorem bd (p:Int):(ah p).ok:=by
 unfold ah En.ok
 split
 ·show(if p<0 then (-1:Int) else 1)=0∨_
  split
  ·exact .inr ⟨.inr rfl,rfl⟩
  ·exact .inr ⟨.inl rfl,rfl⟩
 ·exact .inl rfl
def kr (a b:En):En:=if a.i≠0 then a else if b.i≠0 then b else ⟨0,a.v+b.v⟩
theorem dU {p:Int} (h:¬ rg p=9218868437227405312):ah p=⟨0,aM p⟩:=if_neg h
theorem dC {p:Int} (h:rg p=9218868437227405312):ah p=⟨if p<0 then -1 else 1,0⟩:=if_pos h
theorem qq {p:Int} (h:rg p=9218868437227405312):(if p<0 then (-1:Int) else 1)≠0:=by split<;>decide
def dH (v:Int):Int:=if v<0 then -1 else if 0<v then 1 else 0
def aQ (a:En):Int:=if a.i≠0 then a.i else dH a.v
def cW (x y:Int):Int:=x*y/2^4194304
theorem fZ (x y:Int):cW x y=cW y x:=by unfold cW;rw[Int.mul_comm]
theorem gb (y:Int):cW 0 y=0:=by unfold cW;rw[Int.zero_mul];exact Int.zero_ediv _
theorem qr {D x y:Int} (hD:0<D) (h:x<=y):x/D<=y/D:=Int.ediv_le_ediv hD h
theorem ve {x y c:Int} (h:x<=y) (hc:0<=c):cW x c<=cW y c:=qr (aF _) (Int.mul_le_mul_of_nonneg_right h hc)
theorem vf {x y c:Int} (h:x<=y) (hc:c<=0):cW y c<=cW x c:=qr (aF _) (Int.mul_le_mul_of_nonpos_right h hc)
def ap (a b:En):En:=if aQ a*aQ b=0 then ⟨0,0⟩ else if a.i≠0∨b.i≠0 then ⟨aQ a*aQ b,0⟩ else ⟨0,cW a.v b.v⟩
theorem gM {v:Int} (h:dH v=0):v=0:=by unfold dH at h;split at h;(· omega);split at h<;>omega
theorem AX {v u:Int} (h:v<=u):dH v<=dH u:=by unfold dH;repeat' split;all_goals omega
theorem lp (v:Int):-1<=dH v∧dH v<=1∧(0<=dH v↔0<=v)∧(dH v<=0↔v<=0):=by unfold dH;repeat' split;all_goals omega
theorem ij {a:En} (h:a.ok):-1<=aQ a∧aQ a<=1:=by
 unfold aQ
 have:=lp a.v
 rcases h with h|⟨h,_⟩
 ·rw[if_neg (by omega)];exact⟨this.1,this.2.1⟩
 ·rw[if_pos (by omega)];omega
theorem dc {a:En} (h:a.i=0):aQ a=dH a.v:=if_neg (fun k=>k h)
theorem fE {a:En} (h:a.i≠0):aQ a=a.i:=if_pos h
theorem ks {a b:En} (ha:a.ok) (hb:b.ok) (h:a.le b):aQ a<=aQ b:=by
 have b1:=ij ha
 have b2:=ij hb
 unfold En.le at h
 by_cases ia:a.i=0
 ·by_cases ib:b.i=0
  ·rw[dc ia,dc ib]
   exact AX (by omega)
  ·have:b.i=1:=by unfold En.ok at hb;omega
   rw[fE ib];omega
 ·by_cases ib:b.i=0
  ·have:a.i=-1:=by unfold En.ok at ha;omega
   rw[fE ia];omega
  ·rw[fE ia,fE ib];omega
theorem cf {a b:En} (ha:a.i=0) (hb:b.i=0):ap a b=⟨0,cW a.v b.v⟩:=by
 unfold ap
 rw[dc ha,dc hb]
 by_cases h:dH a.v*dH b.v=0
 ·rw[if_pos h]
  rcases Int.mul_eq_zero.1 h with k|k
  ·rw[gM k,gb]
  ·rw[gM k,fZ,gb]
 ·rw[if_neg h,if_neg (by omega)]
theorem eu {a c:En} (hc:c.i≠0):ap a c=⟨aQ a*c.i,0⟩:=by
 unfold ap
 rw[fE hc]
 by_cases h:aQ a*c.i=0
 ·rw[if_pos h,h]
 ·rw[if_neg h,if_pos (.inr hc)]
theorem dD (a b:En):ap a b=ap b a:=by
 unfold ap
 rw[Int.mul_comm (aQ a),fZ a.v]
 by_cases h:aQ b*aQ a=0
 ·rw[if_pos h,if_pos h]
 ·rw[if_neg h,if_neg h]
  by_cases k:a.i≠0∨b.i≠0
  ·rw[if_pos k,if_pos k.symm]
  ·rw[if_neg k,if_neg (fun q=>k q.symm)]
theorem cz {a c:En} (ha:a.i≠0):ap a c=⟨aQ c*a.i,0⟩:=by rw[dD,eu ha]
theorem mV (a:En):ap ⟨0,0⟩ a=⟨0,0⟩:=by
 unfold ap
 have:aQ ⟨0,0⟩=0:=rfl
 rw[this,Int.zero_mul,if_pos rfl]
theorem fe {a b:En} (ha:a.ok) (hb:b.ok):(ap a b).ok:=by
 have b1:=ij ha
 have b2:=ij hb
 by_cases ib:b.i=0
 ·by_cases ia:a.i=0
  ·rw[cf ia ib];exact .inl rfl
  ·rw[cz ia]
   unfold En.ok at *
   show aQ b*a.i=0∨_ 
   have:a.i=1∨a.i=-1:=by omega
   rcases this with e|e<;>(rw[e];show aQ b*_=0∨(aQ b*_=1∨aQ b*_=-1)∧(0:Int)=0;simp only[and_true];omega)
 ·rw[eu ib]
  unfold En.ok at *
  show aQ a*b.i=0∨_ 
  have:b.i=1∨b.i=-1:=by omega
  rcases this with e|e<;>(rw[e];show aQ a*_=0∨(aQ a*_=1∨aQ a*_=-1)∧(0:Int)=0;simp only[and_true];omega)
theorem ew {a b c:En} (ha:a.ok) (hb:b.ok) (hc:c.ok) (h:a.le b) (hs:0<=aQ c):(ap a c).le (ap b c):=by
 have hm:=ks ha hb h
 by_cases ic:c.i=0
 ·rw[dc ic] at hs
  have hv:=(lp c.v).2.2.1.1 hs
  by_cases ia:a.i=0
  ·by_cases ib:b.i=0
   ·rw[cf ia ic,cf ib ic]
    exact .inr ⟨rfl,ve (by unfold En.le at h;omega) hv⟩
   ·have eb:b.i=1:=by unfold En.ok En.le at *;omega
    rw[cf ia ic,cz ib,eb,dc ic]
    rcases Int.lt_or_eq_of_le hs with q|q
    ·exact .inl (by show 0<dH c.v*1;omega)
    ·exact .inr ⟨by show 0=dH c.v*1;omega,by show cW _ _<=0;rw[gM q.symm,fZ,gb];exact Int.le_refl _⟩
  ·by_cases ib:b.i=0
   ·have ea:a.i=-1:=by unfold En.ok En.le at *;omega
    rw[cf ib ic,cz ia,ea,dc ic]
    rcases Int.lt_or_eq_of_le hs with q|q
    ·exact .inl (by show dH c.v * -1<0;omega)
    ·exact .inr ⟨by show dH c.v * -1=0;omega,by show 0<=cW _ _;rw[gM q.symm,fZ,gb];exact Int.le_refl _⟩
   ·rw[cz ia,cz ib]
    have:a.i<=b.i:=by unfold En.le at h;omega
    have hq:aQ c*a.i<=aQ c*b.i:=Int.mul_le_mul_of_nonneg_left this (by rw[dc ic];exact hs)
    rcases Int.lt_or_eq_of_le hq with q|q
    ·exact .inl q
    ·exact .inr ⟨q,Int.le_refl _⟩
 ·rw[fE ic] at hs
  rw[eu ic,eu ic]
  have hq:aQ a*c.i<=aQ b*c.i:=Int.mul_le_mul_of_nonneg_right hm hs
  rcases Int.lt_or_eq_of_le hq with q|q
  ·exact .inl q
  ·exact .inr ⟨q,Int.le_refl _⟩
theorem eC {a b c:En} (ha:a.ok) (hb:b.ok) (hc:c.ok) (h:a.le b) (hs:aQ c<=0):(ap b c).le (ap a c):=by
 have hm:=ks ha hb h
 by_cases ic:c.i=0
 ·rw[dc ic] at hs
  have hv:=(lp c.v).2.2.2.1 hs
  by_cases ia:a.i=0
  ·by_cases ib:b.i=0
   ·rw[cf ia ic,cf ib ic]
    exact .inr ⟨rfl,vf (by unfold En.le at h;omega) hv⟩
   ·have eb:b.i=1:=by unfold En.ok En.le at *;omega
    rw[cf ia ic,cz ib,eb,dc ic]
    rcases Int.lt_or_eq_of_le hs with q|q
    ·exact .inl (by show dH c.v*1<0;omega)
    ·exact .inr ⟨by show dH c.v*1=0;omega,by show 0<=cW _ _;rw[gM q,fZ,gb];exact Int.le_refl _⟩
  ·by_cases ib:b.i=0
   ·have ea:a.i=-1:=by unfold En.ok En.le at *;omega
    rw[cf ib ic,cz ia,ea,dc ic]
    rcases Int.lt_or_eq_of_le hs with q|q
    ·exact .inl (by show 0<dH c.v * -1;omega)
    ·exact .inr ⟨by show 0=dH c.v * -1;omega,by show cW _ _<=0;rw[gM q,fZ,gb];exact Int.le_refl _⟩
   ·rw[cz ia,cz ib]
    have:a.i<=b.i:=by unfold En.le at h;omega
    have hq:aQ c*b.i<=aQ c*a.i:=Int.mul_le_mul_of_nonpos_left (by rw[dc ic];exact hs) this
    rcases Int.lt_or_eq_of_le hq with q|q
    ·exact .inl q
    ·exact .inr ⟨q,Int.le_refl _⟩
 ·rw[fE ic] at hs
  rw[eu ic,eu ic]
  have hq:aQ b*c.i<=aQ a*c.i:=Int.mul_le_mul_of_nonpos_right hm hs
  rcases Int.lt_or_eq_of_le hq with q|q
  ·exact .inl q
  ·exact .inr ⟨q,Int.le_refl _⟩
def bG (a b:En):En:=if b.i<a.i∨(b.i=a.i∧b.v<a.v) then b else a
def bH (a b:En):En:=if a.i<b.i∨(a.i=b.i∧a.v<b.v) then b else a
theorem eH (a b:En):(bG a b).le a∧(bG a b).le b∧(bG a b=a∨bG a b=b):=by
 unfold bG
 split
 ·rename_i h
  exact⟨by unfold En.le;omega,En.le_refl _,.inr rfl⟩
 ·rename_i h
  exact⟨En.le_refl _,by unfold En.le;omega,.inl rfl⟩
theorem dV (a b:En):a.le (bH a b)∧b.le (bH a b)∧(bH a b=a∨bH a b=b):=by
 unfold bH
 split
 ·rename_i h
  exact⟨by unfold En.le;omega,En.le_refl _,.inr rfl⟩
 ·rename_i h
  exact⟨En.le_refl _,by unfold En.le;omega,.inl rfl⟩
theorem AY {x y:Int} {e f:En} (hx:nn x) (hy:nn y) (kx:aj x=aj (bM e)) (ky:aj y=aj (bM f)):nn (dS x y)∧aj (dS x y)=aj (bM (bG e f)):=by
 obtain⟨a,b,c,d⟩:=lG hx hy
 obtain⟨l1,l2,l3⟩:=eH e f
 have m1:=(fD l1).1
 have m2:=(fD l2).1
 refine⟨a,?_⟩
 rcases l3 with q|q<;>(rw[q] at m1 m2 ⊢;omega)
theorem AZ {x y:Int} {e f:En} (hx:nn x) (hy:nn y) (kx:aj x=aj (bN e)) (ky:aj y=aj (bN f)):nn (eg x y)∧aj (eg x y)=aj (bN (bH e f)):=by
 obtain⟨a,b,c,d⟩:=lH hx hy
 obtain⟨l1,l2,l3⟩:=dV e f
 have m1:=(fD l1).2
 have m2:=(fD l2).2
 refine⟨a,?_⟩
 rcases l3 with q|q<;>(rw[q] at m1 m2 ⊢;omega)
theorem lq {a b x c:En} (ha:a.ok) (hb:b.ok) (hx:x.ok) (hc:c.ok) (h1:a.le x) (h2:x.le b):(bG (ap a c) (ap b c)).le (ap x c)∧(ap x c).le (bH (ap a c) (ap b c)):=by
 obtain⟨l1,l2,_⟩:=eH (ap a c) (ap b c)
 obtain⟨g1,g2,_⟩:=dV (ap a c) (ap b c)
 rcases Int.le_total 0 (aQ c) with s|s
 ·exact⟨l1.le_trans (ew ha hx hc h1 s),(ew hx hb hc h2 s).le_trans g2⟩
 ·exact⟨l2.le_trans (eC hx hb hc h2 s),(eC ha hx hc h1 s).le_trans g1⟩
def kt (a b c d:En):En:=bG (bG (bG (ap a c) (ap a d)) (ap b c)) (ap b d)
def ku (a b c d:En):En:=bH (bH (bH (ap a c) (ap a d)) (ap b c)) (ap b d)
theorem xl (a b c d:En):(kt a b c d).le (ap a c)∧(kt a b c d).le (ap a d)∧(kt a b c d).le (ap b c)∧(kt a b c d).le (ap b d):=by
 unfold kt
 have h1:=eH (ap a c) (ap a d)
 have h2:=eH (bG (ap a c) (ap a d)) (ap b c)
 have h3:=eH (bG (bG (ap a c) (ap a d)) (ap b c)) (ap b d)
 exact⟨h3.1.le_trans (h2.1.le_trans h1.1),h3.1.le_trans (h2.1.le_trans h1.2.1),h3.1.le_trans h2.2.1,h3.2.1⟩
theorem xm (a b c d:En):(ap a c).le (ku a b c d)∧(ap a d).le (ku a b c d)∧(ap b c).le (ku a b c d)∧(ap b d).le (ku a b c d):=by
 unfold ku
 have h1:=dV (ap a c) (ap a d)
 have h2:=dV (bH (ap a c) (ap a d)) (ap b c)
 have h3:=dV (bH (bH (ap a c) (ap a d)) (ap b c)) (ap b d)
 exact⟨(h1.1.le_trans h2.1).le_trans h3.1,(h1.2.1.le_trans h2.1).le_trans h3.1,h2.2.1.le_trans h3.1,h3.2.1⟩
theorem mW {a b x:En} (h:x.le a) (k:x.le b):x.le (bG a b):=by rcases (eH a b).2.2 with q|q<;>(rw[q];assumption)
theorem qt {a b x:En} (h:a.le x) (k:b.le x):(bH a b).le x:=by rcases (dV a b).2.2 with q|q<;>(rw[q];assumption)
theorem A3 {a b c d x y:En} (ha:a.ok) (hb:b.ok) (hc:c.ok) (hd:d.ok) (hx:x.ok) (hy:y.ok) (h1:a.le x) (h2:x.le b) (h3:c.le y) (h4:y.le d) :
  (kt a b c d).le (ap x y)∧(ap x y).le (ku a b c d):=by
 obtain⟨l1,l2,l3,l4⟩:=xl a b c d
 obtain⟨g1,g2,g3,g4⟩:=xm a b c d
 have p:=lq hc hd hy hx h3 h4
 rw[dD c,dD d,dD y] at p
 have pc:=lq ha hb hx hc h1 h2
 have pd:=lq ha hb hx hd h1 h2
 exact⟨(mW ((mW l1 l3).le_trans pc.1) ((mW l2 l4).le_trans pd.1)).le_trans p.1,p.2.le_trans (qt (pc.2.le_trans (qt g1 g3)) (pd.2.le_trans (qt g2 g4)))⟩
def di (a b:En):En:=if aQ a<=0∧0<=aQ b then ⟨0,0⟩ else bG (ap a a) (ap b b)
def dI (a b:En):En:=bH (ap a a) (ap b b)
theorem qu {a:En} (h:a.ok):(⟨0,0⟩:En).le (ap a a):=by
 rcases Int.le_total 0 (aQ a) with s|s
 ·have hz:(⟨0,0⟩:En).le a:=by
   by_cases ia:a.i=0
   ·rw[dc ia] at s
    exact .inr ⟨ia.symm,(lp a.v).2.2.1.1 s⟩
   ·rw[fE ia] at s
    exact .inl (by show 0<a.i;omega)
  have:=ew (.inl rfl) h h hz s
  rw[mV] at this
  exact this
 ·have hz:a.le (⟨0,0⟩:En):=by
   by_cases ia:a.i=0
   ·rw[dc ia] at s
    exact .inr ⟨ia,(lp a.v).2.2.2.1 s⟩
   ·rw[fE ia] at s
    exact .inl (by show a.i<0;omega)
  have:=eC h (.inl rfl) h hz s
  rw[mV] at this
  exact this
theorem A4 {a b x:En} (ha:a.ok) (hb:b.ok) (hx:x.ok) (h1:a.le x) (h2:x.le b):(di a b).le (ap x x)∧(ap x x).le (dI a b):=by
 have m1:=ks ha hx h1
 have m2:=ks hx hb h2
 obtain⟨l1,l2,_⟩:=eH (ap a a) (ap b b)
 obtain⟨g1,g2,_⟩:=dV (ap a a) (ap b b)
 have hi:(ap x x).le (dI a b):=by
  unfold dI
  rcases Int.le_total 0 (aQ x) with s|s
  ·have p1:=ew hx hb hx h2 s
   have p2:=ew hx hb hb h2 (by omega)
   rw[dD x b] at p2
   exact(p1.le_trans p2).le_trans g2
  ·have p1:=eC ha hx hx h1 s
   have p2:=eC ha hx ha h1 (by omega)
   rw[dD x a] at p2
   exact(p1.le_trans p2).le_trans g1
 refine⟨?_,hi⟩
 unfold di
 split
 ·exact qu hx
 ·rename_i hs
  by_cases s:0<aQ a
  ·have p1:=ew ha hx ha h1 (by omega)
   have p2:=ew ha hx hx h1 (by omega)
   rw[dD x a] at p1
   exact l1.le_trans (p1.le_trans p2)
  ·have s2:aQ b<0:=by omega
   have p1:=eC hx hb hb h2 (by omega)
   have p2:=eC hx hb hx h2 (by omega)
   rw[dD x b] at p1
   exact l2.le_trans (p1.le_trans p2)
theorem tF {p:Int} (hp:nn p):aQ (ah p)=if rg p=0 then 0 else if p<0 then -1 else 1:=by
 by_cases hi:rg p=9218868437227405312
 ·have h0:¬ rg p=0:=by omega
  rw[dC hi,fE (by exact qq hi),if_neg h0]
 ·rw[dU hi,dc rfl]
  show dH (aM p)=_
  have hv:=dR hp.1 (cy hp hi)
  obtain⟨k1,k2⟩:=uT hp.1
  have hk:=gv hp.1
  have hr:=fH hp
  have hpw:=bD (-1074)
  unfold dH
  by_cases h0:rg p=0
  ·have hz:iV p=0:=by
    have:aj p=0:=by rw[hk,h0];split<;>rfl
    omega
   rw[if_pos h0,hv,hz,Int.zero_mul]
   simp
  ·rw[if_neg h0]
   by_cases hn:p<0
   ·have:iV p<0:=k1.2 (by rw[hk,if_pos hn];omega)
    have:aM p<0:=by rw[hv];exact Int.mul_neg_of_neg_of_pos this hpw
    rw[if_pos this,if_pos hn]
   ·have:0<iV p:=k2.2 (by rw[hk,if_neg hn];omega)
    have:0<aM p:=by rw[hv];exact Int.mul_pos this hpw
    rw[if_neg (by omega),if_pos this,if_neg hn]
theorem vg {p q:Int} (hp:nn p) (hq:nn q):aH (dT p q)=bM (ap (ah p) (ah q))∧aH (eJ p q)=bN (ap (ah p) (ah q)):=by
 have sp:=tF hp
 have sq:=tF hq
 have c0:aH 0=0:=by decide
 have c1:aH 9218868437227405312=9218868437227405312:=by decide
 have c2:aH (-4503599627370496)=-4503599627370496:=by decide
 by_cases h0:rg p=0∨rg q=0
 ·have hE:ap (ah p) (ah q)=⟨0,0⟩:=by
   unfold ap
   rw[sp,sq]
   rw[if_pos]
   rcases h0 with h|h
   ·rw[if_pos h];exact Int.zero_mul _
   ·rw[if_pos h];exact Int.mul_zero _
  rw[hE]
  unfold dT eJ bM bN
  rw[if_pos h0,if_pos h0]
  simp only[Int.lt_irrefl,if_false]
  rw[c0]
  exact⟨jE.1.symm,jE.2.symm⟩
 ·by_cases hi:rg p=9218868437227405312∨rg q=9218868437227405312
  ·have hn1:rg p≠0:=fun k=>h0 (.inl k)
   have hn2:rg q≠0:=fun k=>h0 (.inr k)
   rw[if_neg hn1] at sp
   rw[if_neg hn2] at sq
   have hE:ap (ah p) (ah q)=⟨(if p<0 then -1 else 1)*(if q<0 then -1 else 1),0⟩:=by
    unfold ap
    rw[sp,sq]
    rw[if_neg (by split<;>split<;>decide),if_pos]
    rcases hi with h|h
    ·left;rw[dC h];exact qq h
    ·right;rw[dC h];exact qq h
   rw[hE]
   unfold dT eJ bM bN
   rw[if_neg h0,if_pos hi,if_neg h0,if_pos hi]
   unfold aU aw
   by_cases a:p<0<;>by_cases b:q<0<;>simp[a,b]<;>decide
  ·have ip:¬ rg p=9218868437227405312:=fun k=>hi (.inl k)
   have iq:¬ rg q=9218868437227405312:=fun k=>hi (.inr k)
   obtain⟨e1,e2⟩:=AR hp.1 hq.1 (cy hp ip) (cy hq iq)
   rw[dU ip,dU iq,cf rfl rfl]
   have hm:cW (aM p) (aM q)=bL p q:=AM.symm
   unfold bM bN
   simp only[Int.lt_irrefl,if_false]
   rw[hm]
   exact⟨e1,e2⟩
theorem sv {p q:Int} (hp:nn p) (hq:nn q):aj (dT p q)=aj (bM (ap (ah p) (ah q)))∧aj (eJ p q)=aj (bN (ap (ah p) (ah q))) :=
 ⟨Ck (dp hp hq).1 (vg hp hq).1,Cl (dp hp hq).2 (vg hp hq).2⟩
def js (a b:Int):Int:=if (aj a<=0∧0<=aj b) then 0 else dS (dT a a) (dT b b)
def tG (a b:Int):Int:=eg (eJ a a) (eJ b b)
theorem lK {p:Int} (hp:nn p):(aQ (ah p)<=0↔aj p<=0)∧(0<=aQ (ah p)↔0<=aj p):=by
 rw[tF hp,gv hp.1]
 have:=fH hp
 by_cases h0:rg p=0
 ·rw[if_pos h0,h0];split<;>omega
 ·rw[if_neg h0];split<;>omega
theorem xO {a b:Int} (ha:nn a) (hb:nn b):nn (js a b)∧nn (tG a b):=by
 refine⟨?_,(lH (dp ha ha).2 (dp hb hb).2).1⟩
 unfold js
 split
 ·exact cP.1
 ·exact(lG (dp ha ha).1 (dp hb hb).1).1
theorem Dk {a b:Int} (ha:nn a) (hb:nn b):aH (js a b)=bM (di (ah a) (ah b))∧aH (tG a b)=bN (dI (ah a) (ah b)):=by
 obtain⟨k1,l1⟩:=sv ha ha
 obtain⟨k4,l4⟩:=sv hb hb
 have A:=AY (dp ha ha).1 (dp hb hb).1 k1 k4
 have B:=AZ (dp ha ha).2 (dp hb hb).2 l1 l4
 refine⟨?_,Cj B.1 B.2⟩
 unfold js di
 have s1:=(lK ha).1
 have s2:=(lK hb).2
 by_cases h:aj a<=0∧0<=aj b
 ·rw[if_pos h,if_pos ⟨s1.2 h.1,s2.2 h.2⟩]
  unfold bM
  simp only[Int.lt_irrefl,if_false]
  exact(show aH 0=0 by decide).trans jE.1.symm
 ·rw[if_neg h,if_neg (fun k=>h ⟨s1.1 k.1,s2.1 k.2⟩)]
  exact Ci A.1 A.2
def cX (a:En):En:=⟨-a.i,-a.v⟩
theorem zc {a b:Bool} (h:a≠b) (X:Int):sg a X=- sg b X:=by
 cases a<;>cases b<;>simp[sg] at h ⊢
theorem vh {p:Int} (hp:nn p) (hf:aB p=true) (hn:aB (neg p)=true):aM (neg p)=- aM p:=by
 obtain⟨g1,g2⟩:=uU hp
 rw[fM hp.1 hf,fM (gp hp).1.1 hn,g1]
 exact zc g2 _
theorem A5 (x:Int):cX ⟨0,x⟩=⟨0,-x⟩:=rfl
theorem vi {p:Int} (hp:nn p):ah (neg p)=cX (ah p):=by
 obtain⟨hn,hk⟩:=gp hp
 obtain⟨g1,g2⟩:=uU hp
 by_cases hi:rg p=9218868437227405312
 ·rw[dC hi,dC (by rw[g1];exact hi)]
  unfold cX
  have:(neg p<0)↔¬ p<0:=by
   by_cases a:neg p<0<;>by_cases b:p<0<;>simp[a,b] at g2 ⊢
  by_cases b:p<0
  ·rw[if_pos b,if_neg (fun k=>this.1 k b)];rfl
  ·rw[if_neg b,if_pos (this.2 b)];rfl
 ·have hi':¬ rg (neg p)=9218868437227405312:=by rw[g1];exact hi
  rw[dU hi,dU hi',A5,vh hp (cy hp hi) (cy hn hi')]
def qw (a b c d:Int):Bool:=decide (aj a<=aj c∧aj d<=aj b)
theorem A6 {a b c d:Int} (ha:nn a) (hb:nn b) (hc:nn c) (hd:nn d):(decide (aj (dS a c)=aj a)&&decide (aj (eg b d)=aj b))=qw a b c d:=by
 obtain⟨_,h1,h2,h3⟩:=lG ha hc
 obtain⟨_,g1,g2,g3⟩:=lH hb hd
 unfold qw
 rw[Bool.eq_iff_iff]
 simp only[Bool.and_eq_true,decide_eq_true_eq]
 omega
theorem nK {P:Program} (w:World) (d:Nat) (t:TypeId) (k:FloatKind) (a b:Nat) (h:P.underlying t=some (.float k)):(Op.equalIn (d+1) t (.float .f64 a) (.float .f64 b)).run P w=.ok (FloatKind.f64.format.order a b == some .eq) w:=by
 simp[Op.equalIn,run_underlying h,Op.floatEq]
theorem zd {lo hi c d:Int} {xg:Bool} {xo:Option Addr} {xn xc:Nat} {xe:Int} (hl:au lo) (hh:au hi) (nc:nn c) (nd:nn d) (hv:br lo hi=true) (w:World)
    (CA:Hid (∀ W,Below w.heap.size w W->Calls prog 14 #[.agg #[.bool xg,.slice xo xn xc,.int .i64 xe]] W fun r w'=>r=.returned (.tuple #[cQ c d,.int .i64 0])∧Below W.heap.size W w')) :
    Calls prog 15 #[cQ lo hi,.agg #[.bool xg,.slice xo xn xc,.int .i64 xe]] w fun e w'=>e=.returned (.tuple #[.bool (qw lo hi c d),.int .i64 0])∧Below w.heap.size w w':=by
  obtain⟨va,vb,_,_,_⟩:=fW.1 hv
  have nl:nn lo:=⟨hl,va⟩
  have nh:nn hi:=⟨hh,vb⟩
  obtain⟨n1,_,_,_⟩:=lG nl nc
  obtain⟨n2,_,_,_⟩:=lH nh nd
  have hI:=A6 nl nh nc nd
  have S1:=jL n1.1 nl.1
  have S2:=jL n2.1 nh.1
  have hs1:dO (dS lo c) lo=decide (aj (dS lo c)=aj lo):=by unfold dO;simp[n1.2,nl.2]
  have hs2:dO (eg hi d) hi=decide (aj (eg hi d)=aj hi):=by unfold dO;simp[n2.2,nh.2]
  rw[hs1] at S1
  rw[hs2] at S2
  have R1:Hid (∀ W,Calls prog 37 #[cQ lo hi] W fun e w'=>e=.returned (bW lo hi)∧Below W.heap.size W w'):=fun W=>el lo hi W
  have R2:Hid (∀ W,Calls prog 37 #[cQ c d] W fun e w'=>e=.returned (bW c d)∧Below W.heap.size W w'):=fun W=>el c d W
  have V1:Hid (∀ W,Calls prog 38 #[bW lo hi] W fun e w'=>e=.returned (.bool true)∧Below W.heap.size W w'):=fun W=>by rw[<- hv];exact dF hl hh W
  have CJ:Hid (∀ W,Calls prog 48 #[bW lo hi,bW c d] W fun e w'=>e=.returned (bW (dS lo c) (eg hi d))∧Below W.heap.size W w'):=fun W=>oj nl nh nc nd W
  rw[<- hI]
  clear hI hs1 hs2 n1 n2 nl nh nc nd hl hh hv va vb
  unfold cQ bW at *
  generalize wd (dS lo c)=X at *
  generalize wd (eg hi d)=Y at *
  generalize (decide (aj (dS lo c)=aj lo))=B1 at *
  generalize (decide (aj (eg hi d)=aj hi))=B2 at *
  generalize wd lo=A at *
  generalize wd hi=B at *
  have hst:∀ (p:Addr) (n:Nat) (m:Mode) (w:World),(store p (.float .f64 n) m).run prog w=stored prog w p (.float .f64 n) m:=fun p n m w=>run_store _ w p _ m rfl
  have hb2:=ax w (.cells #[.int .i64 lo,.int .i64 hi] 23) (.cells #[.bool xg,.slice xo xn xc,.int .i64 xe] 26)
  have p0:=bv w (.cells #[.int .i64 lo,.int .i64 hi] 23) (.cells #[.bool xg,.slice xo xn xc,.int .i64 xe] 26)
  have p1:=bh w (.cells #[.int .i64 lo,.int .i64 hi] 23) (.cells #[.bool xg,.slice xo xn xc,.int .i64 xe] 26)
  go_enter func15,ntmps15
  go_wp2_with fail
  generalize (w.alloc (.cells #[.int .i64 lo,.int .i64 hi] 23)).alloc (.cells #[.bool xg,.slice xo xn xc,.int .i64 xe] 26)=wx at *
  refine(R1.out _).mono ?_
  rintro _ w1 ⟨rfl,hb3⟩
  have p11:=(hb3.block _ (aGe p1).1).trans p1
  have hbi:=ae w1 (.cells #[.float .f64 A,.float .f64 B] 64)
  have gi:(w1.alloc (.cells #[.float .f64 A,.float .f64 B] 64)).heap[w1.heap.size]?=some (.cells #[.float .f64 A,.float .f64 B] 64 (0,0)):=by show(w1.heap.push _)[w1.heap.size]?=_;simp
  go_wp2_with fail
  generalize w1.alloc (.cells #[.float .f64 A,.float .f64 B] 64)=w2 at *
  refine(V1.out _).mono ?_
  rintro _ w3 ⟨rfl,hb4⟩
  have gi3:=(hb4.block _ (aGe gi).1).trans gi
  have p13:=((aa hbi hb4).block _ (aGe p11).1).trans p11
  have c0:=ab p13 0 rfl
  have c1:=ab p13 1 rfl
  have c2:=ab p13 2 rfl
  have hbw:=aa hb2 (aa hb3 (aa hbi hb4))
  go_wp2_with fail
  refine(CA.out _ hbw).mono ?_
  rintro _ w4 ⟨rfl,hb5⟩
  have gi4:=(hb5.block _ (aGe gi3).1).trans gi3
  have hba:=ae w4 (.cells #[.int .i64 c,.int .i64 d] 23)
  have ga:(w4.alloc (.cells #[.int .i64 c,.int .i64 d] 23)).heap[w4.heap.size]?=some (.cells #[.int .i64 c,.int .i64 d] 23 (0,0)):=by show(w4.heap.push _)[w4.heap.size]?=_;simp
  have gi5:=(hba.block _ (aGe gi4).1).trans gi4
  have i0:=ab gi5 0 rfl
  have i1:=ab gi5 1 rfl
  have a0:=ab ga 0 rfl
  have a1:=ab ga 1 rfl
  clear c0 c1 c2
  go_wp2_with fail
  generalize w4.alloc (.cells #[.int .i64 c,.int .i64 d] 23)=w5 at *
  have kk:=And.intro i0 (And.intro i1 (And.intro a0 a1))
  have kd:=Q4.keeps kk (aq w5).drew
  have hbw5:=aa hbw (aa hb5 hba)
  clear hst R1 V1 CA i0 i1 a0 a1 kk gi gi3 gi4 gi5 ga p0 p1 p11 p13
  have QX:∀ W,(Op.equalIn 9999 62 (.float .f64 X) (.float .f64 A)).run prog W=.ok B1 W:=fun W=>by rw[nK W 9998 62 _ X A underlying62,S1]
  have QY:∀ W,(Op.equalIn 9999 62 (.float .f64 Y) (.float .f64 B)).run prog W=.ok B2 W:=fun W=>by rw[nK W 9998 62 _ Y B underlying62,S2]
  clear S1 S2
  cases B1<;>cases B2
  all_goals
    go_region_held3 (fun W=>W.cell? ⟨w1.heap.size,0,none⟩=some (.float .f64 A)∧W.cell? ⟨w1.heap.size,1,none⟩=some (.float .f64 B)∧W.cell? ⟨w4.heap.size,0,none⟩=some (.int .i64 c)∧W.cell? ⟨w4.heap.size,1,none⟩=some (.int .i64 d))
      (first|assumption|exact kd|exact kk1|exact kk2)
      (first
        | (go_at_call 37;refine(R2.out _).mono ?_;rintro _ w6 ⟨rfl,hb6⟩;have kk1:=Q4.keeps kd hb6)
        | (go_at_call 48; refine (CJ.out _).mono ?_; rintro _ w7 ⟨rfl,hb7⟩; have kk2:=Q4.keeps kk1 hb7))
    go_wp2
  all_goals first
    | exact bodyPost_ret (v:=.tuple #[.bool false,.int .i64 0]) (by simp[results,results15,go_sem]) rfl ⟨rfl,aa hbw5.drew (aa hb6 hb7)⟩
    | exact bodyPost_ret (v:=.tuple #[.bool true,.int .i64 0]) (by simp[results,results15,go_sem]) rfl ⟨rfl,aa hbw5.drew (aa hb6 hb7)⟩
theorem qy {x y:Int} (h:x<=y):(⟨0,sg false x⟩:En).le ⟨0,sg false y⟩:=.inr ⟨rfl,h⟩
theorem qA {x y:Int} (h:y<=x):(⟨0,sg true x⟩:En).le ⟨0,sg true y⟩:=.inr ⟨rfl,Int.neg_le_neg h⟩
theorem xP (x:Int):(⟨0,x⟩:En).le ⟨1,0⟩:=.inl (by show(0:Int)<1;decide)
theorem xQ (x:Int):(⟨-1,0⟩:En).le ⟨0,x⟩:=.inl (by show(-1:Int)<0;decide)
theorem lr (g:Bool) {r:Nat} (h:(r:Int)<9218868437227405312):ah (aw (g&&decide (0<(r:Int))) (r:Int))=⟨0,sg g (vS r)⟩:=by
 obtain⟨a,b,c⟩:=cV (ng:=g&&decide (0<(r:Int))) (r:=(r:Int)) (by omega) (by omega)
 rw[dU (by rw[b];omega)]
 refine En.eq rfl ?_
 show aM _=sg g (vS r)
 rw[fM a ((bm a).2 (by rw[b];exact h)),b,c,Int.toNat_natCast]
 by_cases h0:0<r
 ·rw[decide_eq_true (by omega),Bool.and_true]
 ·have:r=0:=by omega
  subst this
  rw[dQ]
  cases g<;>rfl
theorem nL (g:Bool):ah (aw (g&&decide ((0:Int)<9218868437227405312)) 9218868437227405312)=⟨if g then -1 else 1,0⟩:=by
 cases g
 ·rw[dC (by decide)];rfl
 ·rw[dC (by decide)];rfl
theorem ze {r s:Nat} (h:r<=s):vS r<=vS s:=by
 rcases Nat.lt_or_eq_of_le h with g|g
 ·exact Int.le_of_lt (gh g)
 ·rw[g];exact Int.le_refl _
theorem Cn:ce 1 false=9218868437227405311∧ce 1 true=9218868437227405312∧ce 2 false=9218868437227405312∧ce 2 true=9218868437227405311:=⟨by decide,by decide,by decide,by decide⟩
theorem qB {ng:Bool} {r0:Nat} {left:Int} (way:Int) (h:¬ (r0:Int)<9218868437227405312):aN way ng r0 left=ce way ng:=by
 unfold aN;rw[if_neg h]
theorem zf {g:Bool} {A:Int} {r0:Nat} {left:Int} (hR:co A r0 left) :
  (ah (aw (g&&decide (0<aN 1 g r0 left)) (aN 1 g r0 left))).le ⟨0,sg g A⟩∧(⟨0,sg g A⟩:En).le (ah (aw (g&&decide (0<aN 2 g r0 left)) (aN 2 g r0 left))):=by
 obtain⟨h1,h2,h3⟩:=And.intro hR.lo (And.intro hR.hi hR.l0)
 obtain⟨b1,b2,b3,b4⟩:=Cn
 by_cases hr:(r0:Int)<9218868437227405312
 ·obtain⟨u1,u2,u3,u4,u5⟩:=mO (decide (r0 % 2=1)) left
  rw[fs 1 hr,fs 2 hr]
  by_cases hl:left=0
  ·have hA:=h3.1 hl
   rw[u5 1 g hl,u5 2 g hl,hA]
   simp only[Bool.false_eq_true,if_false,Int.add_zero]
   rw[lr g hr]
   exact⟨En.le_refl _,En.le_refl _⟩
  ·have hup:∀ s:Bool,(ah (aw (s&&decide (0<(r0:Int)+1)) ((r0:Int)+1)))=if (r0:Int)+1<9218868437227405312 then ⟨0,sg s (vS (r0+1))⟩ else ⟨if s then -1 else 1,0⟩:=fun s=>by
    by_cases q:(r0:Int)+1<9218868437227405312
    ·rw[if_pos q]
     have:=lr s (r:=r0+1) (by omega)
     rw[Int.natCast_add] at this
     exact this
    ·rw[if_neg q]
     have e:(r0:Int)+1=9218868437227405312:=by omega
     rw[e]
     exact nL s
   cases g
   ·rw[u1,u4 hl]
    simp only[Bool.false_eq_true,if_false,if_true,Int.add_zero]
    rw[lr false hr,hup false]
    refine⟨qy h1,?_⟩
    split
    ·exact qy (Int.le_of_lt h2)
    ·exact xP _
   ·rw[u2 hl,u3]
    simp only[Bool.false_eq_true,if_false,if_true,Int.add_zero]
    rw[lr true hr,hup true]
    refine⟨?_,qA h1⟩
    split
    ·exact qA (Int.le_of_lt h2)
    ·exact xQ _
 ·rw[qB 1 hr,qB 2 hr]
  have hm:=lr g (r:=9218868437227405311) (by decide)
  have hv:vS 9218868437227405311<=A:=Int.le_trans (ze (by omega)) h1
  have hm':ah (aw (g&&decide ((0:Int)<9218868437227405311)) 9218868437227405311)=⟨0,sg g (vS 9218868437227405311)⟩:=hm
  clear hm
  generalize vS 9218868437227405311=X at hm' hv
  cases g
  ·rw[b1,b3,hm',nL false]
   exact⟨qy hv,xP _⟩
  ·rw[b2,b4,hm',nL true]
   exact⟨xQ _,qA hv⟩
theorem zg:ah 0=⟨0,0⟩:=by rw[dU (by decide),iC.1]
theorem oV (V:Int):(ah (dZ V)).le ⟨0,V⟩∧(⟨0,V⟩:En).le (ah (d6 V)):=by
 by_cases h0:V=0
 ·subst h0
  rw[jE.1,jE.2,zg]
  exact⟨En.le_refl _,En.le_refl _⟩
 ·obtain⟨g,A,r0,left,e,hA,hR,c1,c2⟩:=mS h0
  rw[c1,c2,e]
  exact zf hR
theorem xR {p q:Int} (hp:nn p) (hq:nn q) (h:(ah p).le (ah q)):aj p<=aj q:=by
 have:=(fD h).1
 rw[(jr hp).1,(jr hq).1,(dY hp).1,(dY hq).1] at this
 exact this
theorem Dl (V:Int):aj (dZ V)<=aj (d6 V):=xR (fd V).1 (fd V).2 ((oV V).1.le_trans (oV V).2)
theorem Dm (a:En):aj (bM a)<=aj (bN a):=by
 unfold bM bN
 split
 ·exact Int.le_refl _
 ·split
  ·exact Int.le_refl _
  ·exact Dl _
theorem xS (V:Int):aj (dZ V)<9218868437227405312∧-9218868437227405312<aj (d6 V):=by
 obtain⟨h1,h2⟩:=oV V
 have n1:=(fd V).1
 have n2:=(fd V).2
 have i1:=km jC.1 n1
 have i2:=km n2 jC.2
 rw[ms.1] at i1
 rw[ms.2] at i2
 rw[dC (show rg 9218868437227405312=9218868437227405312 by decide)] at i1
 rw[dC (show rg (-4503599627370496)=9218868437227405312 by decide)] at i2
 constructor
 ·refine Int.lt_of_not_ge fun q=>?_
  have:=(i1 q).le_trans h1
  unfold En.le at this
  simp at this
 ·refine Int.lt_of_not_ge fun q=>?_
  have:=h2.le_trans (i2 q)
  unfold En.le at this
  simp at this
theorem Co {e f:En} (h:e.le f) (h1:e.i<=0) (h2:0<=f.i):br (bM e) (bN f)=true:=by
 have n1:=(tE e).1
 have n2:=(tE f).2
 refine fW.2 ⟨n1.2,n2.2,Int.le_trans (fD h).1 (Dm f),?_,?_⟩
 ·unfold bM
  rw[if_neg (by omega)]
  split
  ·decide
  ·exact(xS _).1
 ·unfold bN
  split
  ·decide
  ·rw[if_neg (by omega)]
   exact(xS _).2
structure b9 (e f:En) (V:Int):Prop where
 lo:e.le ⟨0,V⟩
 hi:(⟨0,V⟩:En).le f
theorem b9.vld {e f:En} {V:Int} (h:b9 e f V):br (bM e) (bN f)=true:=by
 refine Co (h.lo.le_trans h.hi) ?_ ?_
 ·have:=h.lo;unfold En.le at this;simp at this;omega
 ·have:=h.hi;unfold En.le at this;simp at this;omega
theorem b9.keys {e f:En} {V:Int} (h:b9 e f V):aj (bM e)<=aj (dZ V)∧aj (d6 V)<=aj (bN f):=by
 have h1:=(fD h.lo).1
 have h2:=(fD h.hi).2
 unfold bM at h1 ⊢
 unfold bN at h2 ⊢
 exact⟨h1,h2⟩
theorem b9.inI {e f:En} {V:Int} (h:b9 e f V):qw (bM e) (bN f) (dZ V) (d6 V)=true:=by
 obtain⟨h1,h2⟩:=h.keys
 unfold Go.Proofs.YtkkpppgfoilgmaaGreatDoor.qw
 exact decide_eq_true ⟨h1,h2⟩
theorem qC {a c:En} (ha:a.i=0) (hc:c.i=0):kr a c=⟨0,a.v+c.v⟩:=by
 unfold kr;rw[if_neg (fun k=>k ha),if_neg (fun k=>k hc)]
theorem vj {a c:En} (ha:a.i≠0):kr a c=a:=if_pos ha
theorem vk {a c:En} (ha:a.i=0) (hc:c.i≠0):kr a c=c:=by
 unfold kr;rw[if_neg (fun k=>k ha),if_pos hc]
theorem b9.plus {a b c d:En} {x y:Int} (h:b9 a b x) (k:b9 c d y):b9 (kr a c) (kr b d) (x+y):=by
 have h1:=h.lo
 have h2:=h.hi
 have k1:=k.lo
 have k2:=k.hi
 unfold En.le at h1 h2 k1 k2
 simp only at h1 h2 k1 k2
 constructor
 ·by_cases ia:a.i=0
  ·by_cases ic:c.i=0
   ·rw[qC ia ic];exact .inr ⟨rfl,by show a.v+c.v<=x+y;omega⟩
   ·rw[vk ia ic];exact .inl (by show c.i<0;omega)
  ·rw[vj ia];exact .inl (by show a.i<0;omega)
 ·by_cases ib:b.i=0
  ·by_cases id:d.i=0
   ·rw[qC ib id];exact .inr ⟨rfl,by show x+y<=b.v+d.v;omega⟩
   ·rw[vk ib id];exact .inl (by show 0<d.i;omega)
  ·rw[vj ib];exact .inl (by show 0<b.i;omega)
theorem b9.neg {a b:En} {x:Int} (h:b9 a b x):b9 (cX b) (cX a) (-x):=by
 have h1:=h.lo
 have h2:=h.hi
 unfold En.le at h1 h2
 simp only at h1 h2
 constructor
 ·unfold cX En.le;simp only;omega
 ·unfold cX En.le;simp only;omega
theorem b9.times {a b c d:En} {x y:Int} (ha:a.ok) (hb:b.ok) (hc:c.ok) (hd:d.ok) (h:b9 a b x) (k:b9 c d y):b9 (kt a b c d) (ku a b c d) (cW x y):=by
 have:=A3 ha hb hc hd (.inl rfl) (.inl rfl) h.lo h.hi k.lo k.hi
 rw[cf rfl rfl] at this
 exact⟨this.1,this.2⟩
theorem b9.square {a b:En} {x:Int} (ha:a.ok) (hb:b.ok) (h:b9 a b x):b9 (di a b) (dI a b) (cW x x):=by
 have:=A4 ha hb (.inl rfl) h.lo h.hi
 rw[cf rfl rfl] at this
 exact⟨this.1,this.2⟩
theorem b9.of {lo hi b:Int} (hl:nn lo) (hh:nn hi) (hb:nn b) (pb:aB b=true) (h:aj lo<=aj b) (k:aj b<=aj hi):b9 (ah lo) (ah hi) (aM b):=by
 have hf:¬ rg b=9218868437227405312:=by have:=(bm hb.1).1 pb;omega
 have h1:=km hl hb h
 have h2:=km hb hh k
 rw[dU hf] at h1 h2
 exact⟨h1,h2⟩
theorem b9.vldP {lo hi:Int} {V:Int} (hl:nn lo) (hh:nn hi) (h:b9 (ah lo) (ah hi) V):M.br lo hi=true:=by
 have hv:=h.vld
 rw[(jr hl).1,(jr hh).2] at hv
 obtain⟨v1,v2,v3,v4,v5⟩:=fW.1 hv
 rw[(dY hl).1] at v3 v4
 rw[(dY hh).1] at v3 v5
 exact fW.2 ⟨hl.2,hh.2,v3,v4,v5⟩
end Go.Proofs.YtkkpppgfoilgmaaGreatDoor
