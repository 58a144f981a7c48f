/- Parts of the proof. -/
import Derived.Test.YtcklaogdjpbagaaGreatDoorSp8
import Derived.Laws.FloatArith
import Derived.Test.YtcklaogdjpbagaaGreatDoorSp6
import Derived.Test.YtcklaogdjpbagaaGreatDoorSp4
set_option maxRecDepth 100000
set_option maxHeartbeats 8000000
set_option linter.unusedVariables false
set_option linter.unusedSimpArgs false
namespace Go.Proofs.YtcklaogdjpbagaaGreatDoor
open Go Go.RowKit Go.Proofs.YtcklaogdjpbagaaGreatDoor.M Ieee
theorem wP {g h:Bool} {x y p q r Z:Int} (e:p*q=r*Z):sg (g != h) (x*y*r)*Z=sg g (x*p)*sg h (y*q):=by
 rw[vQ,oM]
 congr 1
 rw[Int.mul_assoc (x*y),<- e,Int.mul_assoc x y,Int.mul_assoc x p]
 congr 1
 rw[<- Int.mul_assoc,<- Int.mul_assoc,Int.mul_comm y p]
theorem wR (g h:Bool):(g ^^ h)=(g != h):=by cases g<;>cases h<;>rfl
theorem Ew {a b:Int} (ha:ax a) (hb:ax b) (pa:aF a=true) (pb:aF b=true) :
  ∃ D:Int,0<=D∧sg (decide (a<0) != decide (b<0)) D*2^4194304=aq a*aq b ∧
   (D=0->Ieee.double.mul (wd a) (wd b)=some (wd (aK (decide (a<0) != decide (b<0)) 0))) ∧
   (D≠0->∃ (r0:Nat) (left:Int),dW D r0 left∧Ieee.double.mul (wd a) (wd b)=some (wd (aK (decide (a<0) != decide (b<0)) (bR 0 (decide (a<0) != decide (b<0)) r0 left)))):=by
 obtain⟨m,u,h1,v1⟩:=gI ha pa
 obtain⟨n,v,h2,v2⟩:=gI hb pb
 have hmul:Ieee.double.mul (wd a) (wd b)=some (Ieee.double.nearest (decide (a<0) != decide (b<0)) (m*n) (-1074+(u:Int)+(-1074+(v:Int)))):=by
  unfold Format.mul
  rw[h1,h2]
  unfold Datum.product
  dsimp only
  rw[wR]
  rfl
 have hpm:=lD (a:=-1074+(u:Int)) (b:=-1074+(v:Int)) (by omega) (by omega)
 have hB:-4194304 <= -1074+(u:Int)+(-1074+(v:Int)):=by omega
 have hq:=cv (-1074+(u:Int)+(-1074+(v:Int)))
 have hC:=wP (g:=decide (a<0)) (h:=decide (b<0)) (x:=(m:Int)) (y:=(n:Int)) hpm
 rw[<- v1,<- v2] at hC
 generalize -1074+(u:Int)+(-1074+(v:Int))=base at *
 have hcast:((m*n:Nat):Int)=(m:Int)*(n:Int):=by push_cast;rfl
 refine⟨(m:Int)*(n:Int)*pw base,Int.mul_nonneg (by rw[<- hcast];omega) (Int.le_of_lt hq),hC,fun h=>?_,fun h=>?_⟩
 ·have h0:m*n=0:=by
   rcases Int.mul_eq_zero.1 h with g|g
   ·rw[<- hcast] at g;omega
   ·omega
  rw[hmul,h0]
  unfold Format.nearest
  rw[if_pos rfl]
  have:=jh (ng:=decide (a<0) != decide (b<0)) (r:=0) (by decide) (by decide)
  rw[<- this]
  rfl
 ·have h0:m*n≠0:=fun e=>h (by rw[<- hcast,e];simp)
  obtain⟨r0,left,hR,hE⟩:=lW (decide (a<0) != decide (b<0)) (place:=base) h0 hB
  rw[hcast] at hR
  refine⟨r0,left,hR,?_⟩
  rw[hmul,hE]
  obtain⟨g1,g2⟩:=fj 0 (decide (a<0) != decide (b<0)) r0 left
  rw[jh g1 g2]
def rG (z:Nat):Prop:=z<18446744073709551616∧9218868437227405312<z % 9223372036854775808
theorem AZ (x y t:Nat):rG ((Question.nanBits .f64 x y).cut t):=by
 have h:(Question.nanBits .f64 x y).cut t=(t % 2)*2^63+0x7ff0000000000000+1+(t/2) % (2^52-1):=rfl
 have e63:(2:Nat)^63=9223372036854775808:=by decide
 have e52:(2:Nat)^52-1=4503599627370495:=by decide
 rw[h,e63,e52]
 have hc:=Nat.mod_lt (t/2) (show 0<4503599627370495 by decide)
 have hm:t % 2=0∨t % 2=1:=by omega
 generalize t/2 % 4503599627370495=c at *
 unfold rG
 rcases hm with h2|h2
 ·rw[h2];omega
 ·rw[h2];omega
theorem kX {P:Program} (op:BinOp) (ho:op=.add∨op=.sub∨op=.mul∨op=.quo) (t:TypeId) (x y:Nat) (w:World) :
  ∃ z w',(binOp op t (.float .f64 x) (.float .f64 y)).run P w=.ok (.float .f64 z) w'∧((floatBits op .f64 x y=some z∧w'=w)∨(floatBits op .f64 x y=none∧rG z∧w'=w.drew)):=by
 cases h:floatBits op .f64 x y with
 | some r=>exact⟨r,w,run_float_arith w op t .f64 x y r h,.inl ⟨rfl,rfl⟩⟩
 | none=>
  refine⟨_,w.drew,?_,.inr ⟨rfl,AZ x y (w.tape w.drawn (.nanBits .f64 x y)),rfl⟩⟩
  unfold floatBits at h
  rcases ho with rfl|rfl|rfl|rfl<;>simp only at h<;>simp[binOp,Op.floatArith,h]<;>exact fun hf=>absurd (show false=true from hf) (by decide)
def FW (p:Int) (x:Nat):Prop:=(aL p≠4∧ax p∧x=wd p)∨(p=9221120237041090561∧rG x)
def yT (x:Nat):Int:=if x<9223372036854775808 then (x:Int) else (x:Int)-18446744073709551616
theorem Ba {p:Int} (h:ax p):yT (wd p)=p:=by
 unfold ax at h
 unfold yT wd
 split<;>omega
def dp (S:Int):Int:=yT (Ieee.double.nearest (decide (S<0)) S.natAbs (-4194304))
theorem yU:pw (-4194304)=1:=by unfold pw;rfl
theorem jB {ng:Bool} {r:Int} (h0:0<=r) (h1:r<=9218868437227405312):ax (aK ng r)∧aL (aK ng r)≠4:=by
 have hr:ax (aK ng r):=by unfold ax aK;cases ng<;>simp<;>omega
 refine⟨hr,fun q=>?_⟩
 have:=(dT hr).1.1 q
 unfold rg aK at this
 cases ng
 ·simp only[Bool.false_eq_true,if_false] at this;split at this<;>omega
 ·simp only[if_true] at this;split at this<;>omega
theorem ft {S:Int} (h:S≠0):∃ (A:Int) (r0:Nat) (left:Int),S=sg (decide (S<0)) A∧dW A r0 left∧dp S=aK (decide (S<0)) (bR 0 (decide (S<0)) r0 left):=by
 obtain⟨A,r0,left,h1,h2,h3⟩:=nQ (S:=S) (t:=S) (base:=-4194304) (by decide) (by rw[yU,Int.mul_one]) h
 refine⟨A,r0,left,h1,h2,?_⟩
 unfold dp
 rw[h3]
 obtain⟨g1,g2⟩:=fj 0 (decide (S<0)) r0 left
 exact Ba (jB g1 g2).1
theorem lY {g:Bool} {A B:Int} (h:sg g A=sg g B):A=B:=by
 cases g
 ·exact h
 ·exact Int.neg_inj.1 h
def aE (p q:Int):Int :=
 if aL p=4∨aL q=4 then 9221120237041090561
 else if rg p=9218868437227405312 then (if rg q=9218868437227405312∧decide (p<0)≠decide (q<0) then 9221120237041090561 else p)
 else if rg q=9218868437227405312 then q
 else if aq p+aq q=0 then aK (decide (p<0)&&decide (q<0)) 0 else dp (aq p+aq q)
theorem dU {p:Int} (hp:ax p):aF p=true↔rg p<9218868437227405312:=by
 obtain⟨r0,r1⟩:=fm hp
 have hf:0<=cn p∧cn p<4503599627370496:=by unfold cn;omega
 have hg:0<=bT p∧bT p<2048:=by unfold bT;omega
 unfold aF
 simp
 omega
theorem yV {p q:Int} (hp:ax p) (hq:ax q) (pp:aF p=true) (pq:aF q=true):Ieee.double.add (wd p) (wd q)=some (wd (if aq p+aq q=0 then aK (decide (p<0)&&decide (q<0)) 0 else dp (aq p+aq q))):=by
 obtain⟨h0,h1⟩:=Ev hp hq pp pq
 by_cases hS:aq p+aq q=0
 ·rw[if_pos hS];exact h0 hS
 ·rw[if_neg hS]
  obtain⟨A,r0,left,a1,a2,a3⟩:=h1 hS
  obtain⟨B,s0,k,b1,b2,b3⟩:=ft hS
  have hAB:=lY (a1.symm.trans b1)
  subst hAB
  obtain⟨h2,h3⟩:=a2.unique b2
  subst h2 h3
  rw[a3,b3]
theorem gi {p:Int} (hp:ax p) (h:rg p=9218868437227405312):Ieee.double.read (wd p)=.infinity (decide (p<0)):=by
 have hw:((wd p % 9223372036854775808:Nat):Int)=rg p:=mr hp
 have:=kE Ieee.double zL (wd p) (by rw[ga,kF];omega)
 rwa [ga,lH hp] at this
theorem kd {p:Int} (hp:ax p) (h:rg p=9218868437227405312):Ieee.double.write (.infinity (decide (p<0)))=wd p:=by
 unfold Format.write
 dsimp only
 rw[kF]
 have:=jh (ng:=decide (p<0)) (r:=9218868437227405312) (by decide) (by decide)
 have e:aK (decide (p<0)) 9218868437227405312=p:=by
  unfold rg at h
  unfold aK
  by_cases h0:p<0
  ·rw[if_pos h0] at h;rw[decide_eq_true h0,if_pos rfl];omega
  ·rw[if_neg h0] at h;rw[decide_eq_false h0,if_neg (by decide)];omega
 rw[e] at this
 exact this
theorem jQ:aL 9221120237041090561=4:=by decide
theorem FW.nan {x:Nat} (h:rG x):FW 9221120237041090561 x:=.inr ⟨rfl,h⟩
theorem FW.pat {p:Int} (h:aL p≠4) (hp:ax p):FW p (wd p):=.inl ⟨h,hp,rfl⟩
theorem FW.read_nan {p:Int} {x:Nat} (h:FW p x) (h4:aL p=4):∃ s t,Ieee.double.read x=.nan s t:=by
 rcases h with⟨h,_⟩|⟨_,h⟩
 ·exact absurd h4 h
 ·exact M.qN Ieee.double zL x (by rw[ga,kF];exact h.2)
theorem FW.of {p:Int} {x:Nat} (h:FW p x) (h4:aL p≠4):ax p∧x=wd p∧0<=rg p∧rg p<=9218868437227405312:=by
 rcases h with⟨_,h1,h2⟩|⟨h,_⟩
 ·obtain⟨r0,_⟩:=fm h1
  refine⟨h1,h2,r0,?_⟩
  rcases Int.lt_or_le 9218868437227405312 (rg p) with g|g
  ·exact absurd ((dT h1).1.2 g) h4
  ·exact g
 ·rw[h] at h4;exact absurd jQ h4
theorem gJ {S:Int} (h:S≠0):ax (dp S)∧aL (dp S)≠4:=by
 obtain⟨A,r0,left,_,_,e⟩:=ft h
 rw[e]
 obtain⟨g1,g2⟩:=fj 0 (decide (S<0)) r0 left
 exact jB g1 g2
theorem rH {p q:Int} {x y:Nat} (hx:FW p x) (hy:FW q y):(∃ z,Ieee.double.add x y=some z∧FW (aE p q) z)∨(Ieee.double.add x y=none∧aE p q=9221120237041090561):=by
 by_cases h4:aL p=4∨aL q=4
 ·right
  refine⟨?_,by unfold aE;rw[if_pos h4]⟩
  unfold Format.add
  rcases h4 with h|h
  ·obtain⟨s,t,e⟩:=hx.read_nan h
   rw[e]
   rfl
  ·obtain⟨s,t,e⟩:=hy.read_nan h
   rw[e]
   cases Ieee.double.read x<;>rfl
 ·have h4p:aL p≠4:=fun h=>h4 (.inl h)
  have h4q:aL q≠4:=fun h=>h4 (.inr h)
  obtain⟨rp,rfl,p0,p1⟩:=hx.of h4p
  obtain⟨rq,rfl,q0,q1⟩:=hy.of h4q
  unfold aE
  rw[if_neg h4]
  by_cases ip:rg p=9218868437227405312
  ·rw[if_pos ip]
   have ep:=gi rp ip
   by_cases iq:rg q=9218868437227405312
   ·have eq:=gi rq iq
    by_cases hs:decide (p<0)=decide (q<0)
    ·left
     refine⟨wd p,?_,?_⟩
     ·unfold Format.add
      rw[ep,eq]
      unfold Datum.sum
      dsimp only
      rw[if_pos hs]
      show some (Ieee.double.write (.infinity (decide (p<0))))=_
      rw[kd rp ip]
     ·rw[if_neg (fun h=>h.2 hs)]
      exact FW.pat h4p rp
    ·right
     refine⟨?_,by rw[if_pos ⟨iq,hs⟩]⟩
     unfold Format.add
     rw[ep,eq]
     unfold Datum.sum
     dsimp only
     rw[if_neg hs]
     rfl
   ·left
    obtain⟨m,u,eq,_⟩:=gI rq ((dU rq).2 (by omega))
    refine⟨wd p,?_,?_⟩
    ·unfold Format.add
     rw[ep,eq]
     show some (Ieee.double.write (.infinity (decide (p<0))))=_
     rw[kd rp ip]
    ·rw[if_neg (fun h=>iq h.1)]
     exact FW.pat h4p rp
  ·rw[if_neg ip]
   have pp:=(dU rp).2 (by omega)
   by_cases iq:rg q=9218868437227405312
   ·left
    rw[if_pos iq]
    have eq:=gi rq iq
    obtain⟨m,u,ep,_⟩:=gI rp pp
    refine⟨wd q,?_,FW.pat h4q rq⟩
    unfold Format.add
    rw[ep,eq]
    show some (Ieee.double.write (.infinity (decide (q<0))))=_
    rw[kd rq iq]
   ·left
    rw[if_neg iq]
    refine⟨_,yV rp rq pp ((dU rq).2 (by omega)),?_⟩
    by_cases hS:aq p+aq q=0
    ·rw[if_pos hS]
     obtain⟨g1,g2⟩:=jB (ng:=decide (p<0)&&decide (q<0)) (r:=0) (by decide) (by decide)
     exact FW.pat g2 g1
    ·rw[if_neg hS]
     exact FW.pat (gJ hS).2 (gJ hS).1
theorem wS {x y:Nat} (h1:x % Ieee.double.signWeight=y % Ieee.double.signWeight) (h2:(x/Ieee.double.signWeight % 2 == 1)=!(y/Ieee.double.signWeight % 2 == 1)):Ieee.double.read x=(Ieee.double.read y).opposite:=by
 unfold Format.read
 dsimp only
 rw[h1,h2]
 split
 ·rfl
 ·split
  ·rfl
  ·split
   ·rfl
   ·rfl
theorem yW {q:Int} (hq:ax q) (h4:aL q≠4):Ieee.double.read (wd (neg q))=(Ieee.double.read (wd q)).opposite:=by
 have hn:neg q=if q<0 then q+9223372036854775808 else q-9223372036854775808:=by unfold neg;rw[if_neg h4]
 refine wS ?_ ?_
 ·rw[ga,hn]
  unfold ax at hq
  unfold wd
  split<;>omega
 ·rw[ga,lH (eu hq),lH hq,hn]
  unfold ax at hq
  by_cases h:q<0
  ·rw[if_pos h,decide_eq_false (p:=q+9223372036854775808<0) (by omega),decide_eq_true h];rfl
  ·rw[if_neg h,decide_eq_true (p:=q-9223372036854775808<0) (by omega),decide_eq_false h];rfl
theorem Bb {q:Int} (h:aL q=4):neg q=9221120237041090561:=by unfold neg;rw[if_pos h]
theorem Cb {p q:Int} {x y:Nat} (hx:FW p x) (hy:FW q y):(∃ z,Ieee.double.sub x y=some z∧FW (aE p (neg q)) z)∨(Ieee.double.sub x y=none∧aE p (neg q)=9221120237041090561):=by
 by_cases h4:aL q=4
 ·right
  refine⟨?_,by unfold aE;rw[Bb h4,if_pos (.inr jQ)]⟩
  obtain⟨s,t,e⟩:=hy.read_nan h4
  unfold Format.sub
  rw[e]
  cases Ieee.double.read x<;>rfl
 ·obtain⟨rq,rfl,_,_⟩:=hy.of h4
  have hs:Ieee.double.sub x (wd q)=Ieee.double.add x (wd (neg q)):=by
   unfold Format.sub Format.add
   rw[yW rq h4]
  rw[hs]
  exact rH hx (FW.pat (AU rq h4) (eu rq))
def fQ (p q:Int):Bool:=decide (p<0) != decide (q<0)
def dG (p q:Int):Int:=sg (fQ p q) (aq p*aq q/2^4194304)
def ay (p q:Int):Int :=
 if aL p=4∨aL q=4 then 9221120237041090561
 else if rg p=9218868437227405312∨rg q=9218868437227405312 then (if rg p=0∨rg q=0 then 9221120237041090561 else aK (fQ p q) 9218868437227405312)
 else if dG p q=0 then aK (fQ p q) 0 else dp (sg (fQ p q) (dG p q))
theorem yX {g:Bool} {D Z C:Int} (hZ:0<Z) (h:sg g D*Z=C):sg g (C/Z)=D:=by
 rw[<- h,Int.mul_ediv_cancel _ (Int.ne_of_gt hZ)]
 cases g
 ·rfl
 ·exact Int.neg_neg D
theorem yY {g:Bool} {D:Int} {r0:Nat} {left:Int} (h0:0<D) (hR:dW D r0 left):dp (sg g D)=aK g (bR 0 g r0 left):=by
 have hd:decide (sg g D<0)=g:=by
  cases g
  ·exact decide_eq_false (by show ¬ D<0;omega)
  ·exact decide_eq_true (by show -D<0;omega)
 have hn:sg g D≠0:=by
  cases g
  ·show D≠0;omega
  ·show -D≠0;omega
 obtain⟨A,s0,k,e1,e2,e3⟩:=ft hn
 rw[hd] at e1 e3
 have:=lY e1
 subst this
 obtain⟨h1,h2⟩:=hR.unique e2
 subst h1 h2
 exact e3
theorem yZ {p q:Int} (hp:ax p) (hq:ax q) (pp:aF p=true) (pq:aF q=true):Ieee.double.mul (wd p) (wd q)=some (wd (if dG p q=0 then aK (fQ p q) 0 else dp (sg (fQ p q) (dG p q)))):=by
 obtain⟨D,d0,d1,d2,d3⟩:=Ew hp hq pp pq
 have hf:dG p q=D:=yX (aJ 4194304) d1
 rw[hf]
 by_cases h:D=0
 ·rw[if_pos h];exact d2 h
 ·rw[if_neg h]
  obtain⟨r0,left,hR,hE⟩:=d3 h
  rw[hE,yY (by omega) hR]
  rfl
theorem kY (g:Bool):Ieee.double.write (.infinity g)=wd (aK g 9218868437227405312):=by
 unfold Format.write
 dsimp only
 rw[kF]
 exact jh (ng:=g) (r:=9218868437227405312) (by decide) (by decide)
theorem rI {q:Int} {m u:Nat} (hq:ax q) (pq:aF q=true) (h:aq q=sg (decide (q<0)) ((m:Int)*pw (-1074+(u:Int)))):m=0↔rg q=0:=by
 have e:=nc hq pq
 rw[h] at e
 have e2:=lY e
 obtain⟨r0,r1⟩:=va hq pq
 constructor
 ·intro hm
  rw[hm] at e2
  have e3:vS (rg q).toNat=0:=by rw[<- e2];simp
  rcases Nat.eq_zero_or_pos (rg q).toNat with g|g
  ·omega
  ·have:=kU g
   rw[gh,e3] at this
   exact absurd this (Int.lt_irrefl _)
 ·intro hr
  rw[hr] at e2
  have e3:(m:Int)*pw (-1074+(u:Int))=0:=by rw[e2];exact gh
  have:=(mL (cv (-1074+(u:Int)))).2 e3
  omega
theorem wT {p q:Int} {x y:Nat} (hx:FW p x) (hy:FW q y):(∃ z,Ieee.double.mul x y=some z∧FW (ay p q) z)∨(Ieee.double.mul x y=none∧ay p q=9221120237041090561):=by
 by_cases h4:aL p=4∨aL q=4
 ·right
  refine⟨?_,by unfold ay;rw[if_pos h4]⟩
  unfold Format.mul
  rcases h4 with h|h
  ·obtain⟨s,t,e⟩:=hx.read_nan h
   rw[e]
   rfl
  ·obtain⟨s,t,e⟩:=hy.read_nan h
   rw[e]
   cases Ieee.double.read x<;>rfl
 ·have h4p:aL p≠4:=fun h=>h4 (.inl h)
  have h4q:aL q≠4:=fun h=>h4 (.inr h)
  obtain⟨rp,rfl,p0,p1⟩:=hx.of h4p
  obtain⟨rq,rfl,q0,q1⟩:=hy.of h4q
  have hI:=jB (ng:=fQ p q) (r:=9218868437227405312) (by decide) (by decide)
  have hX:(decide (p<0) ^^ decide (q<0))=fQ p q:=wR _ _
  have hX2:(decide (q<0) ^^ decide (p<0))=fQ p q:=by rw[<- hX];cases decide (p<0)<;>cases decide (q<0)<;>rfl
  unfold ay
  rw[if_neg h4]
  by_cases ip:rg p=9218868437227405312
  ·rw[if_pos (.inl ip)]
   have ep:=gi rp ip
   by_cases iq:rg q=9218868437227405312
   ·left
    rw[if_neg (by omega)]
    refine⟨_,?_,FW.pat hI.2 hI.1⟩
    unfold Format.mul
    rw[ep,gi rq iq]
    show some (Ieee.double.write (.infinity (decide (p<0) ^^ decide (q<0))))=_
    rw[kY,hX]
   ·have pq:=(dU rq).2 (by omega)
    obtain⟨m,u,eq,vq⟩:=gI rq pq
    have hz:=rI rq pq vq
    by_cases hm:m=0
    ·right
     refine⟨?_,by rw[if_pos (.inr (hz.1 hm))]⟩
     unfold Format.mul
     rw[ep,eq,hm]
     rfl
    ·left
     rw[if_neg (fun h=>by rcases h with h|h;omega;exact hm (hz.2 h))]
     refine⟨_,?_,FW.pat hI.2 hI.1⟩
     unfold Format.mul
     rw[ep,eq]
     unfold Datum.product
     dsimp only
     rw[if_neg hm]
     show some (Ieee.double.write (.infinity (decide (p<0) ^^ decide (q<0))))=_
     rw[kY,hX]
  ·have pp:=(dU rp).2 (by omega)
   by_cases iq:rg q=9218868437227405312
   ·rw[if_pos (.inr iq)]
    obtain⟨m,u,ep,vp⟩:=gI rp pp
    have hz:=rI rp pp vp
    have eq:=gi rq iq
    by_cases hm:m=0
    ·right
     refine⟨?_,by rw[if_pos (.inl (hz.1 hm))]⟩
     unfold Format.mul
     rw[ep,eq,hm]
     rfl
    ·left
     rw[if_neg (fun h=>by rcases h with h|h;exact hm (hz.2 h);omega)]
     refine⟨_,?_,FW.pat hI.2 hI.1⟩
     unfold Format.mul
     rw[ep,eq]
     unfold Datum.product
     dsimp only
     rw[if_neg hm]
     show some (Ieee.double.write (.infinity (decide (q<0) ^^ decide (p<0))))=_
     rw[kY,hX2]
   ·left
    rw[if_neg (by omega)]
    refine⟨_,yZ rp rq pp ((dU rq).2 (by omega)),?_⟩
    by_cases hS:dG p q=0
    ·rw[if_pos hS]
     obtain⟨g1,g2⟩:=jB (ng:=fQ p q) (r:=0) (by decide) (by decide)
     exact FW.pat g2 g1
    ·rw[if_neg hS]
     have hn:sg (fQ p q) (dG p q)≠0:=by
      generalize dG p q=D at *
      cases fQ p q
      ·exact hS
      ·show -D≠0;omega
     exact FW.pat (gJ hn).2 (gJ hn).1
end Go.Proofs.YtcklaogdjpbagaaGreatDoor
namespace Go.Proofs.YtcklaogdjpbagaaGreatDoor.M
def Fl (n:Int):Prop:=∃ k:Nat,(2^k:Int) ∣ n∧(n.natAbs:Int)<9007199254740992*2^k
def Nr (S h:Int):Prop:=Fl h∧∀ f,Fl f->(h-S).natAbs<=(f-S).natAbs
theorem p2 (k:Nat):(0:Int)<2^k:=Int.pow_pos (by decide)
theorem iU (k:Nat):(2:Int)^(k+1)=2*2^k:=by rw[Int.pow_succ,Int.mul_comm]
theorem ja {j k:Nat} (h:j<=k):(2^j:Int) ∣ 2^k:=⟨2^(k-j),by rw[<- Int.pow_add,Nat.add_sub_cancel' h]⟩
theorem lZ {j k:Nat} (h:j<=k):(2:Int)^j<=2^k:=Int.le_of_dvd (p2 k) (ja h)
theorem za {j k:Nat} (h:(2:Int)^j<2^k):j<k:=by
 rcases Nat.lt_or_ge j k with c|c
 ·exact c
 ·have:=lZ c;omega
theorem Fl.neg {n:Int} (h:Fl n):Fl (-n):=by
 obtain⟨k,d,b⟩:=h
 exact⟨k,(Int.dvd_neg).2 d,by rw[Int.natAbs_neg];exact b⟩
theorem ji:Fl 0:=⟨0,⟨0,by simp⟩,by simp⟩
theorem nR {n:Int} {k:Nat} (d:(2^k:Int) ∣ n) (b:(n.natAbs:Int)<=9007199254740992*2^k):Fl n:=by
 by_cases c:(n.natAbs:Int)<9007199254740992*2^k
 ·exact⟨k,d,c⟩
 ·have e:(n.natAbs:Int)=9007199254740992*2^k:=by omega
  refine⟨k+1,?_,?_⟩
  ·rw[<- Int.dvd_natAbs,e,iU]
   exact⟨4503599627370496,by omega⟩
  ·rw[iU];have:=p2 k;omega
theorem Fl.dbl {n:Int} (h:Fl n):Fl (2*n):=by
 obtain⟨k,⟨c,rfl⟩,b⟩:=h
 refine⟨k+1,⟨c,by rw[iU,Int.mul_assoc]⟩,?_⟩
 rw[iU]
 omega
theorem Nr.neg {S h:Int} (n:Nr S h):Nr (-S) (-h):=by
 refine⟨n.1.neg,fun f hf=>?_⟩
 have:=n.2 (-f) hf.neg
 omega
theorem dF {S h:Int} (hS:Fl S) (n:Nr S h):h=S:=by
 have:=n.2 S hS
 omega
theorem rJ {x y:Int} (hx:Fl x) (hy:Fl y) (h1:(x-y).natAbs<=x.natAbs) (h2:(x-y).natAbs<=y.natAbs):Fl (x-y):=by
 obtain⟨j,dx,bx⟩:=hx
 obtain⟨k,dy,by1⟩:=hy
 rcases Nat.le_total j k with c|c
 ·exact⟨j,Int.dvd_sub dx (Int.dvd_trans (ja c) dy),by omega⟩
 ·exact⟨k,Int.dvd_sub (Int.dvd_trans (ja c) dx) dy,by omega⟩
theorem wU {x y:Int} (hx:Fl x) (hy:Fl y) (h1:(x+y).natAbs<=x.natAbs) (h2:(x+y).natAbs<=y.natAbs):Fl (x+y):=by
 have e:x+y=x - -y:=by omega
 rw[e]
 exact rJ hx hy.neg (by omega) (by omega)
theorem nS {S h:Int} {k:Nat} (n:Nr S h) (d:(2^k:Int) ∣ S) (h0:0<=S):(2^k:Int) ∣ h:=by
 by_cases c:(S.natAbs:Int)<=9007199254740992*2^k
 ·rw[dF (nR d c) n];exact d
 ·have hT:Fl (9007199254740992*2^k):=nR ⟨9007199254740992,by rw[Int.mul_comm]⟩ (by have:=p2 k;omega)
  have h1:=n.2 _ hT
  obtain⟨j,dj,bj⟩:=n.1
  have hk:=p2 k
  have hj:=p2 j
  have:(2:Int)^k<2^j:=by omega
  exact Int.dvd_trans (ja (Nat.le_of_lt (za this))) dj
theorem nT {S h:Int} {k:Nat} (n:Nr S h) (d:(2^k:Int) ∣ S):(2^k:Int) ∣ h:=by
 rcases Int.le_total 0 S with c|c
 ·exact nS n d c
 ·have:=nS n.neg ((Int.dvd_neg).2 d) (by omega)
  exact(Int.dvd_neg).1 this
theorem ue {a b h:Int} (ha:Fl a) (hb:Fl b) (n:Nr (a+b) h):Fl (a+b-h):=by
 have e1:=n.2 a ha
 have e2:=n.2 b hb
 obtain⟨j,da,ba⟩:=ha
 obtain⟨k,db,bb⟩:=hb
 rcases Nat.le_total j k with c|c
 ·have d:=Int.dvd_add da (Int.dvd_trans (ja c) db)
  exact⟨j,Int.dvd_sub d (nT n d),by omega⟩
 ·have d:=Int.dvd_add (Int.dvd_trans (ja c) da) db
  exact⟨k,Int.dvd_sub d (nT n d),by omega⟩
theorem rK {a b h:Int} (ha:Fl a) (hb:Fl b) (h0:0<=a) (hab:b.natAbs<=a.natAbs) (n:Nr (a+b) h):Fl (h-a):=by
 have ea:=n.2 a ha
 have e2:=n.2 (2*a) ha.dbl
 have ez:=n.2 0 ji
 by_cases hs:a<=2*h
 ·exact rJ n.1 ha (by omega) (by omega)
 ·have hS:Fl (a+b):=by
   obtain⟨k,⟨c,hc⟩,ba⟩:=ha
   cases k with
   | zero=>exact⟨0,⟨a+b,by simp⟩,by simp at ba ⊢;omega⟩
   | succ k=>
    have hf:Fl (2^k*c):=⟨k,⟨c,rfl⟩,by rw[iU] at ba hc;rw[Int.mul_assoc] at hc;omega⟩
    have e3:=n.2 _ hf
    rw[iU,Int.mul_assoc] at hc
    exact wU ⟨k+1,⟨c,by rw[iU,Int.mul_assoc];exact hc⟩,ba⟩ hb (by omega) (by omega)
  rw[dF hS n,show a+b-a=b by omega]
  exact hb
theorem rN {a b h:Int} (ha:Fl a) (hb:Fl b) (hab:b.natAbs<=a.natAbs) (n:Nr (a+b) h):Fl (h-a):=by
 rcases Int.le_total 0 a with c|c
 ·exact rK ha hb c hab n
 ·have n2:=n.neg
  rw[show -(a+b)=-a + -b by omega] at n2
  have:=(rK ha.neg hb.neg (by omega) (by omega) n2).neg
  rwa [show -(-h - -a)=h-a by omega] at this
theorem rO (S:Int) (h0:0<=S):∃ k:Nat,S<9007199254740992*2^k∧(k=0∨4503599627370496*2^k<=S):=by
 have ex:∀ n:Nat,S<9007199254740992*2^n->∃ k:Nat,S<9007199254740992*2^k∧(k=0∨4503599627370496*2^k<=S):=by
  intro n
  induction n with
  | zero=>intro h;exact⟨0,h,.inl rfl⟩
  | succ n ih=>
   intro h
   by_cases c:S<9007199254740992*2^n
   ·exact ih c
   ·exact⟨n+1,h,.inr (by rw[iU];omega)⟩
 refine ex S.natAbs ?_
 have h1:S.natAbs<2^S.natAbs:=Nat.lt_two_pow_self
 have h2:((2^S.natAbs:Nat):Int)=2^S.natAbs:=by simp
 have h3:=p2 S.natAbs
 omega
theorem nU {S h:Int} (n:Nr S h) (h0:0<=S):1000*(h-S).natAbs<=S.natAbs:=by
 obtain⟨k,b,c⟩:=rO S h0
 have hk:=p2 k
 have hm:=Int.emod_nonneg S (show(2:Int)^k≠0 by omega)
 have hl:=Int.emod_lt_of_pos S hk
 have hf:Fl (S-S % 2^k):=by
  refine nR (k:=k) ⟨S/2^k,by have:=Int.emod_add_mul_ediv S (2^k);omega⟩ ?_
  have:0<=S-S % 2^k:=by
   have:=Int.emod_add_mul_ediv S (2^k)
   have h2:0<=2^k*(S/2^k):=Int.mul_nonneg (by omega) (Int.ediv_nonneg h0 (by omega))
   omega
  omega
 have e:=n.2 _ hf
 rcases c with c|c
 ·subst c
  have:S % 2^0=0:=by simp
  omega
 ·omega
theorem wV {S h:Int} (n:Nr S h):1000*(h-S).natAbs<=S.natAbs:=by
 rcases Int.le_total 0 S with c|c
 ·exact nU n c
 ·have:=nU n.neg (by omega)
  omega
theorem Bc {a b h v u p q l:Int} (ha:Fl a) (hb:Fl b) (nh:Nr (a+b) h) (nv:Nr (h-a) v) (nu:Nr (h-v) u) (np:Nr (a-u) p) (nq:Nr (b-v) q) (nl:Nr (p+q) l):l=a+b-h:=by
 have hd:=ue ha hb nh
 -- the step rN,where it is exact
 have A:Fl (h-a)->l=a+b-h:=by
  intro hx
  have e1:=dF hx nv
  subst e1
  rw[show h-(h-a)=a by omega] at nu
  have e2:=dF ha nu
  subst e2
  rw[show u-u=0 by omega] at np
  have e3:=dF ji np
  subst e3
  rw[show b-(h-u)=u+b-h by omega] at nq
  have e4:=dF hd nq
  subst e4
  rw[show 0+(u+b-h)=u+b-h by omega] at nl
  exact dF hd nl
 by_cases hab:b.natAbs<=a.natAbs
 ·exact A (rN ha hb hab nh)
 by_cases hha:a.natAbs<=h.natAbs
 ·-- h-v is exact
  have n1:Nr (h + -a) v:=by rw[show h + -a=h-a by omega];exact nv
  have hx:=(rN nh.1 ha.neg (by omega) n1).neg
  rw[show -(v-h)=h-v by omega] at hx
  have e1:=dF hx nu
  subst e1
  have hy:=(ue nh.1 ha.neg n1).neg
  rw[show -(h + -a-v)=a-(h-v) by omega] at hy
  have e2:=dF hy np
  subst e2
  have r1:=wV nh
  have r2:=nv.2 b hb
  have hz:Fl (b-v):=rJ hb nv.1 (by omega) (by omega)
  have e3:=dF hz nq
  subst e3
  rw[show a-(h-v)+(b-v)=a+b-h by omega] at nl
  exact dF hd nl
 ·-- then the sum is exact
  have e1:=nh.2 a ha
  have e2:=nh.2 (-a) ha.neg
  have hS:Fl (a+b):=wU ha hb (by omega) (by omega)
  have e3:=dF hS nh
  exact A (by rw[e3,show a+b-a=b by omega];exact hb)
theorem DH {S h T:Int} (n:Nr S h) (hT:Fl T) (c:T<=S):T<=h:=by
 have:=n.2 T hT
 omega
theorem DI (i:Nat) {m:Nat} (hm:(m:Int)<=9007199254740992):Fl ((m:Int)*2^i):=by
 refine nR (k:=i) ⟨m,by rw[Int.mul_comm]⟩ ?_
 have h1:0<=(m:Int)*2^i:=Int.mul_nonneg (by omega) (Int.le_of_lt (p2 i))
 have h2:(m:Int)*2^i<=9007199254740992*2^i:=Int.mul_le_mul_of_nonneg_right hm (Int.le_of_lt (p2 i))
 omega
theorem zb {h:Int} {i:Nat} (f:Fl h) (c:4503599627370496*2^i<=(h.natAbs:Int)):(2^i:Int) ∣ h:=by
 obtain⟨j,d,b⟩:=f
 have hi:=p2 i
 have hj:=p2 j
 cases i with
 | zero=>exact⟨h,by simp⟩
 | succ i=>
  rw[iU] at c
  have:(2:Int)^i<2^j:=by omega
  exact Int.dvd_trans (ja (za this)) d
theorem wW (S:Int) (i:Nat):∃ T:Int,(2^i:Int) ∣ T∧2*(T-S).natAbs<=(2^i:Int):=by
 have hi:=p2 i
 have hm:=Int.emod_nonneg S (show(2:Int)^i≠0 by omega)
 have hl:=Int.emod_lt_of_pos S hi
 have e:=Int.emod_add_mul_ediv S (2^i)
 generalize S % 2^i=t at *
 by_cases c:2*t<=2^i
 ·exact⟨S-t,⟨S/2^i,by omega⟩,by omega⟩
 ·exact⟨S-t+2^i,⟨S/2^i+1,by rw[Int.mul_add,Int.mul_one];omega⟩,by omega⟩
theorem Cc {S h:Int} {i:Nat} (n:Nr S h) (c:(S.natAbs:Int)<=9007199254740992*2^i):2*((h-S).natAbs:Int)<=2^i:=by
 obtain⟨T,d,e⟩:=wW S i
 have hi:=p2 i
 have hT:Fl T:=by
  by_cases c2:(T.natAbs:Int)<=9007199254740992*2^i
  ·exact nR d c2
  ·exfalso
   obtain⟨t,rfl⟩:=d
   have h1:(9007199254740992:Int)<t.natAbs:=by
    rw[Int.natAbs_mul] at c2
    have e2:((2^i:Int).natAbs:Int)=2^i:=by omega
    push_cast at c2
    rcases Int.lt_or_le 9007199254740992 (t.natAbs:Int) with g|g
    ·exact g
    ·exfalso
     have:=Int.mul_le_mul_of_nonneg_left g (Int.le_of_lt hi)
     rw[e2] at c2
     omega
   have h2:(2^i:Int)*9007199254740993<=((2^i*t).natAbs:Int):=by
    rw[Int.natAbs_mul]
    have e2:((2^i:Int).natAbs:Int)=2^i:=by omega
    rw[Int.natCast_mul,e2]
    exact Int.mul_le_mul_of_nonneg_left (by omega) (Int.le_of_lt hi)
   generalize 2^i*t=T at *
   omega
 have:=n.2 T hT
 omega
structure Cd (a h:Int) (j:Nat):Prop where
 up:(134217728*2^j:Int) ∣ h
 lo:(2^j:Int) ∣ a-h
 top:(h.natAbs:Int)<=9007199254740992*2^j
 low:((a-h).natAbs:Int)<=67108864*2^j
theorem Cd.neg {a h:Int} {j:Nat} (s:Cd a h j):Cd (-a) (-h) j :=
 ⟨(Int.dvd_neg).2 s.up,by rw[show -a - -h=-(a-h) by omega];exact(Int.dvd_neg).2 s.lo,by rw[Int.natAbs_neg];exact s.top,by rw[show -a - -h=-(a-h) by omega,Int.natAbs_neg];exact s.low⟩
theorem jR (i:Nat) (t:Int):((2^i*t).natAbs:Int)=2^i*(t.natAbs:Int):=by
 have hi:=p2 i
 rw[Int.natAbs_mul,Int.natCast_mul,show((2^i:Int).natAbs:Int)=2^i by omega]
theorem Fl.down {i:Nat} {t:Int} (h:Fl (2^i*t)):Fl t:=by
 obtain⟨k,d,b⟩:=h
 rw[jR] at b
 rcases Nat.le_total i k with c|c
 ·obtain⟨e,rfl⟩:∃ e,k=i+e:=⟨k-i,by omega⟩
  rw[Int.pow_add] at d b
  refine⟨e,Int.dvd_of_mul_dvd_mul_left (by have:=p2 i;omega) d,?_⟩
  have e2:(9007199254740992:Int)*(2^i*2^e)=2^i*(9007199254740992*2^e):=by rw[<- Int.mul_assoc,<- Int.mul_assoc,Int.mul_comm _ (2^i)]
  rw[e2] at b
  exact Int.lt_of_mul_lt_mul_left b (Int.le_of_lt (p2 i))
 ·refine⟨0,⟨t,by simp⟩,?_⟩
  have h1:(9007199254740992:Int)*2^k<=2^i*9007199254740992:=by rw[Int.mul_comm];exact Int.mul_le_mul_of_nonneg_right (lZ c) (by decide)
  have h2:=Int.lt_of_mul_lt_mul_left (Int.lt_of_lt_of_le b h1) (Int.le_of_lt (p2 i))
  simpa using h2
theorem Fl.up {t:Int} (h:Fl t) (i:Nat):Fl (2^i*t):=by
 obtain⟨k,⟨c,rfl⟩,b⟩:=h
 refine⟨i+k,⟨c,by rw[Int.pow_add,Int.mul_assoc]⟩,?_⟩
 rw[jR,Int.pow_add]
 have e2:(9007199254740992:Int)*(2^i*2^k)=2^i*(9007199254740992*2^k):=by rw[<- Int.mul_assoc,<- Int.mul_assoc,Int.mul_comm _ (2^i)]
 rw[e2]
 exact Int.mul_lt_mul_of_pos_left b (p2 i)
theorem vb {x y:Int} {X Y:Int} (hx:(x.natAbs:Int)<=X) (hy:(y.natAbs:Int)<=Y):((x*y).natAbs:Int)<=X*Y:=by
 rw[Int.natAbs_mul,Int.natCast_mul]
 exact Int.mul_le_mul hx hy (by omega) (by omega)
end Go.Proofs.YtcklaogdjpbagaaGreatDoor.M
namespace Go.Proofs.YtcklaogdjpbagaaGreatDoor
open Go Go.RowKit Go.Proofs.YtcklaogdjpbagaaGreatDoor.M Ieee
def iV (p:Int):Int:=sg (decide (p<0)) (V Ieee.double (rg p).toNat:Int)
theorem cQ {p:Int} (hp:ax p) (h:aF p=true):aq p=iV p*pw (-1074):=by
 rw[nc hp h];unfold iV vS;rw[oM]
theorem oO (n k:Nat):((n*2^k:Nat):Int)=2^k*(n:Int):=by rw[Int.natCast_mul,Int.mul_comm];simp
theorem Ex {S q:Int} (hq:0<q) (h:S≠0):S*q≠0:=fun c=>by
 rcases Int.mul_eq_zero.1 c with d|d<;>omega
theorem DJ {S q:Int} (hq:0<q):decide (S*q<0)=decide (S<0):=by
 congr 1
 exact propext (mK hq).symm
theorem DK {S q A:Int} (hq:0<q) (h:S*q=sg (decide (S<0)) A):A=(S.natAbs:Int)*q:=by
 have:=pQ (t:=S) hq
 rw[this] at h
 exact(lY h).symm
theorem Ce {S h:Int} (n:Nr (S.natAbs:Int) h):Nr S (sg (decide (S<0)) h):=by
 by_cases c:S<0
 ·rw[decide_eq_true c]
  have n2:=n.neg
  have e:-(S.natAbs:Int)=S:=by omega
  rw[e] at n2
  exact n2
 ·rw[decide_eq_false c]
  have e:(S.natAbs:Int)=S:=by omega
  rw[e] at n
  exact n
theorem oP (r:Nat):Fl (V Ieee.double r:Int):=by
 unfold V
 rw[lV]
 by_cases h:r<4503599627370496
 ·rw[if_pos h]
  exact⟨0,⟨r,by simp⟩,by simp;omega⟩
 ·rw[if_neg h]
  have hm:=Nat.mod_lt r (show 0<4503599627370496 by decide)
  obtain⟨n,hn⟩:∃ n,4503599627370496+r % 4503599627370496=n:=⟨_,rfl⟩
  rw[hn]
  refine⟨r/4503599627370496-1,⟨n,oO _ _⟩,?_⟩
  rw[Int.natAbs_natCast,oO,Int.mul_comm]
  exact Int.mul_lt_mul_of_pos_right (by omega) (p2 _)
theorem Ey {f:Int} (h:Fl f):∃ r:Nat,(f.natAbs:Int)=(V Ieee.double r:Int):=by
 obtain⟨k,b,c⟩:=rO (f.natAbs:Int) (by omega)
 rcases Nat.eq_zero_or_pos k with g|g
 ·subst g
  have:=gH Ieee.double 0 f.natAbs (.inl ⟨rfl,by rw[lV];simp at b;omega⟩)
  exact⟨_,by rw[this];simp⟩
 ·have c2:4503599627370496*2^k<=(f.natAbs:Int):=by
   rcases c with c|c
   ·omega
   ·exact c
  obtain⟨t,ht⟩:=zb h c2
  have e:(f.natAbs:Int)=2^k*(t.natAbs:Int):=by rw[ht,jR]
  rw[e] at b c2
  have hk:=p2 k
  have b2:(t.natAbs:Int)<9007199254740992:=Int.lt_of_mul_lt_mul_left (by rw[Int.mul_comm (2^k) 9007199254740992];exact b) (Int.le_of_lt hk)
  have c3:4503599627370496<=(t.natAbs:Int):=Int.le_of_mul_le_mul_left (by rw[Int.mul_comm (2^k) 4503599627370496];exact c2) hk
  have:=gH Ieee.double k t.natAbs (.inr ⟨by rw[lV];omega,by rw[lV];omega⟩)
  exact⟨_,by rw[this,e];push_cast;rw[Int.mul_comm]⟩
theorem zc {r s:Nat} (h:r<=s):(V Ieee.double r:Int)<=V Ieee.double s:=by
 rcases Nat.lt_or_eq_of_le h with g|g
 ·have:=iN Ieee.double g;omega
 ·rw[g];omega
theorem Ez {S:Int} {ng:Bool} {r0:Nat} {left:Int} (h0:0<=S) (hR:dW (S*pw (-1074)) r0 left) (hf:bR 0 ng r0 left<9218868437227405312):Nr S (V Ieee.double (bR 0 ng r0 left).toNat:Int):=by
 obtain⟨lo,hi,l0,l1,l2,l3⟩:=hR
 have hq:=cv (-1074)
 unfold vS at *
 generalize pw (-1074)=q at *
 have g1:(V Ieee.double r0:Int)<=S:=Int.le_of_mul_le_mul_right lo hq
 have g2:S<(V Ieee.double (r0+1):Int):=Int.lt_of_mul_lt_mul_right hi (Int.le_of_lt hq)
 have g3:left=2->2*S=(V Ieee.double r0:Int)+V Ieee.double (r0+1):=fun c=>by
  have:=l2.1 c
  rw[<- Int.add_mul,<- Int.mul_assoc] at this
  exact Int.eq_of_mul_eq_mul_right (by omega) this
 have g4:left=3->(V Ieee.double r0:Int)+V Ieee.double (r0+1)<2*S:=fun c=>by
  have:=l3.1 c
  rw[<- Int.add_mul,<- Int.mul_assoc] at this
  exact Int.lt_of_mul_lt_mul_right this (Int.le_of_lt hq)
 have g5:left≠3->2*S<=(V Ieee.double r0:Int)+V Ieee.double (r0+1):=fun c=>by
  rcases Int.lt_or_le ((V Ieee.double r0:Int)+V Ieee.double (r0+1)) (2*S) with d|d
  ·have:=Int.mul_lt_mul_of_pos_right d hq
   rw[Int.add_mul,Int.mul_assoc] at this
   exact absurd (l3.2 this) c
  ·exact d
 clear l0 l1 l2 l3 lo hi
 have far:∀ f:Int,Fl f->f<=V Ieee.double r0∨V Ieee.double (r0+1)<=f:=by
  intro f hf
  obtain⟨s,hs⟩:=Ey hf
  rcases Nat.lt_or_ge r0 s with c|c
  ·have:=zc (show r0+1<=s from c)
   have:=zc (show 0<=r0 by omega)
   omega
  ·have:=zc c
   omega
 unfold bR at hf ⊢
 by_cases hr:(r0:Int)<9218868437227405312
 ·rw[if_pos hr] at hf ⊢
  cases hu:cK 0 ng (decide (r0 % 2=1)) left
  ·rw[if_neg (by decide)]
   have e:((r0:Int)+0).toNat=r0:=by omega
   rw[e]
   have hl:left≠3:=fun c=>by
    subst c
    unfold cK at hu
    simp at hu
   refine⟨oP r0,fun f hf=>?_⟩
   have:=far f hf
   have:=g5 hl
   omega
  ·rw[if_pos rfl]
   have e:((r0:Int)+1).toNat=r0+1:=by omega
   rw[e]
   have hl:left=3∨left=2:=by
    unfold cK at hu
    simp at hu
    rcases hu with c|c
    ·exact .inl c
    ·exact .inr c.1
   refine⟨oP (r0+1),fun f hf=>?_⟩
   have:=far f hf
   rcases hl with c|c
   ·have:=g4 c;omega
   ·have:=g3 c;omega
 ·rw[if_neg hr] at hf
  unfold fK cK at hf
  simp at hf
def kZ:Int:=(V Ieee.double 9218868437227405311:Int)
theorem DM {S:Int} {ng:Bool} {r0:Nat} {left:Int} (h0:S<=kZ) (hR:dW (S*pw (-1074)) r0 left):bR 0 ng r0 left<9218868437227405312:=by
 obtain⟨lo,hi,l0,l1,l2,l3⟩:=hR
 have hq:=cv (-1074)
 unfold vS at *
 generalize pw (-1074)=q at *
 have g1:(V Ieee.double r0:Int)<=S:=Int.le_of_mul_le_mul_right lo hq
 have hr:r0<=9218868437227405311:=by
  rcases Nat.lt_or_ge 9218868437227405311 r0 with c|c
  ·have:=iN Ieee.double c
   unfold kZ at h0
   omega
  ·exact c
 unfold bR
 rw[if_pos (by omega)]
 by_cases c:r0=9218868437227405311
 ·have e:S=(V Ieee.double r0:Int):=by rw[c] at g1 ⊢;unfold kZ at h0;omega
  have:left=0:=l0.2 (by rw[e])
  subst this
  rw[if_neg (fun c=>il c)]
  omega
 ·split<;>omega
theorem fu {ng:Bool} {r:Int} (h0:0<=r) (h1:r<=9218868437227405312):ax (aK ng r)∧rg (aK ng r)=r∧decide (aK ng r<0)=ng:=by
 unfold aK ax rg
 cases ng
 ·simp only[Bool.false_eq_true,if_false]
  rw[if_neg (by omega)]
  exact⟨by omega,rfl,decide_eq_false (by omega)⟩
 ·simp only[if_true]
  rw[if_pos (by omega)]
  exact⟨by omega,by omega,decide_eq_true (by omega)⟩
theorem lc {ng:Bool} {r:Int} (h0:0<=r) (h1:r<=9218868437227405312):aF (aK ng r)=decide (r<9218868437227405312):=by
 obtain⟨a,b,_⟩:=fu (ng:=ng) h0 h1
 have:=dU a
 rw[b] at this
 cases h:aF (aK ng r)
 ·refine(decide_eq_false fun c=>?_).symm
  rw[this.2 c] at h;cases h
 ·exact(decide_eq_true (this.1 h)).symm
theorem oQ {ng:Bool} {r:Int} (h0:0<=r) (h1:r<=9218868437227405312):iV (aK ng r)=sg ng (V Ieee.double r.toNat:Int):=by
 obtain⟨_,b,c⟩:=fu (ng:=ng) h0 h1
 unfold iV
 rw[b,c]
theorem Be:Nr 0 0:=⟨ji,fun f _=>by omega⟩
theorem Bf {S:Int} (h:S≠0):ax (dp (S*pw (-1074)))∧(aF (dp (S*pw (-1074)))=true->Nr S (iV (dp (S*pw (-1074)))))∧((S.natAbs:Int)<=kZ->aF (dp (S*pw (-1074)))=true):=by
 have hq:=cv (-1074)
 obtain⟨A,r0,left,e1,hR,e2⟩:=ft (Ex hq h)
 rw[DJ hq] at e1 e2
 have hA:=DK hq e1
 rw[hA] at hR
 have hrr:=fj 0 (decide (S<0)) r0 left
 rw[e2]
 refine⟨(fu hrr.1 hrr.2).1,fun hp=>?_,fun hb=>?_⟩
 ·rw[lc hrr.1 hrr.2] at hp
  have n:=Ez (ng:=decide (S<0)) (Int.natCast_nonneg _) hR (of_decide_eq_true hp)
  rw[oQ hrr.1 hrr.2]
  exact Ce n
 ·rw[lc hrr.1 hrr.2]
  exact decide_eq_true (DM hb hR)
theorem kn:ax 9221120237041090561:=by unfold ax;decide
theorem nV:aF 9221120237041090561=false:=by decide
theorem ma {p:Int} (hp:ax p) (h4:¬ aL p=4) (hi:¬ rg p=9218868437227405312):aF p=true:=by
 have:=(dT hp).1
 rw[dU hp]
 have:¬ 9218868437227405312<rg p:=fun c=>h4 (this.2 c)
 omega
theorem wX {p:Int} (hp:ax p) (hi:rg p=9218868437227405312):¬ aF p=true:=fun h=>by
 have:=(dU hp).1 h
 omega
theorem dr {p:Int} (hp:ax p) (h:aF p=true):¬ aL p=4∧¬ rg p=9218868437227405312:=by
 have h1:=(dU hp).1 h
 exact⟨fun c=>by have:=(dT hp).1.1 c;omega,by omega⟩
theorem pT {p q:Int} (hp:ax p) (hq:ax q) (h:aF (aE p q)=true):aF p=true∧aF q=true:=by
 unfold aE at h
 by_cases c4:aL p=4∨aL q=4
 ·rw[if_pos c4,nV] at h;cases h
 rw[if_neg c4] at h
 by_cases ci:rg p=9218868437227405312
 ·rw[if_pos ci] at h
  by_cases cj:rg q=9218868437227405312∧decide (p<0)≠decide (q<0)
  ·rw[if_pos cj,nV] at h;cases h
  ·rw[if_neg cj] at h;exact absurd h (wX hp ci)
 rw[if_neg ci] at h
 by_cases cj:rg q=9218868437227405312
 ·rw[if_pos cj] at h;exact absurd h (wX hq cj)
 exact⟨ma hp (fun c=>c4 (.inl c)) ci,ma hq (fun c=>c4 (.inr c)) cj⟩
theorem gY (g:Bool):ax (aK g 0)∧aF (aK g 0)=true∧iV (aK g 0)=0:=by
 refine⟨(fu (by decide) (by decide)).1,?_,?_⟩
 ·rw[lc (by decide) (by decide)];decide
 ·rw[oQ (by decide) (by decide)]
  show sg g (V Ieee.double 0:Int)=0
  rw[lF]
  exact eg g
structure rP (S p:Int):Prop where
 rn:ax p
 nr:aF p=true->Nr S (iV p)
 fin:(S.natAbs:Int)<=kZ->aF p=true
theorem rQ (g:Bool):rP 0 (aK g 0):=by
 obtain⟨a,b,c⟩:=gY g
 exact⟨a,fun _=>by rw[c];exact Be,fun _=>b⟩
theorem rR {S:Int} (h:S≠0):rP S (dp (S*pw (-1074))):=by
 obtain⟨a,b,c⟩:=Bf h
 exact⟨a,b,c⟩
theorem Cf {a b T u Z k w:Int} (hz:0<Z) (e2:w*w=u*Z) (e3:w=u*k) (hT:k*T=a*b):a*w*(b*w)/Z=T*w:=by
 have e1:a*w*(b*w)=a*b*(w*w):=by
  rw[Int.mul_assoc,Int.mul_assoc];congr 1;rw[<- Int.mul_assoc,<- Int.mul_assoc,Int.mul_comm w b]
 rw[e1,e2,<- hT]
 have:k*T*(u*Z)=T*w*Z:=by
  rw[e3,Int.mul_comm k T,Int.mul_assoc,Int.mul_assoc,<- Int.mul_assoc k u Z,Int.mul_comm k u]
 rw[this]
 exact Int.mul_ediv_cancel _ (by omega)
theorem Cg {T w:Int} (g:Bool) (hw:0<w) (d:sg g (T*w)=0):T=0:=by
 have:=iX d
 rcases Int.mul_eq_zero.1 this with g|g<;>omega
theorem Bg {T w:Int} (hw:0<w) (d:T*w=0):T=0:=by
 rcases Int.mul_eq_zero.1 d with g|g<;>omega
theorem DN {T w:Int} (g:Bool) (h:T=0):sg g (T*w)=0:=by rw[h,Int.zero_mul];exact eg g
theorem Ch (g:Bool) (A:Int):sg g (sg g A)=A:=by cases g<;>simp[sg]
theorem im {p q:Int} (hp:ax p) (hq:ax q) (pp:aF p=true) (pq:aF q=true):rP (iV p+iV q) (aE p q):=by
 obtain⟨a1,a2⟩:=dr hp pp
 obtain⟨b1,b2⟩:=dr hq pq
 have e:aE p q=if iV p+iV q=0 then aK (decide (p<0)&&decide (q<0)) 0 else dp ((iV p+iV q)*pw (-1074)):=by
  unfold aE
  rw[if_neg (fun c=>c.elim a1 b1),if_neg a2,if_neg b2,cQ hp pp,cQ hq pq,<- Int.add_mul]
  have hq:=cv (-1074)
  by_cases c:iV p+iV q=0
  ·rw[if_pos c,if_pos (by rw[c,Int.zero_mul])]
  ·rw[if_neg c,if_neg (fun d=>c (Bg hq d))]
 rw[e]
 by_cases c:iV p+iV q=0
 ·rw[if_pos c,c];exact rQ _
 ·rw[if_neg c];exact rR c
theorem rV {p q T:Int} (hp:ax p) (hq:ax q) (pp:aF p=true) (pq:aF q=true) (hT:2^1074*T=iV p*iV q):rP T (ay p q):=by
 obtain⟨a1,a2⟩:=dr hp pp
 obtain⟨b1,b2⟩:=dr hq pq
 have hw:=cv (-1074)
 have hs:aq p*aq q/2^4194304=T*pw (-1074):=by
  rw[cQ hp pp,cQ hq pq]
  have e2:=lD (a:=-1074) (b:=-1074) (by decide) (by decide)
  rw[show(-1074 + -1074:Int)=-2148 by decide] at e2
  have e3:=eS (e:=-2148) (by decide) 1074
  rw[show(-2148+((1074:Nat):Int))=-1074 by decide] at e3
  exact Cf (aJ 4194304) e2 e3 hT
 have e:ay p q=if T=0 then aK (fQ p q) 0 else dp (T*pw (-1074)):=by
  unfold ay dG
  rw[if_neg (fun c=>c.elim a1 b1),if_neg (fun c=>c.elim a2 b2),hs]
  by_cases c:T=0
  ·rw[if_pos c,if_pos (DN _ c)]
  ·rw[if_neg c,if_neg (fun d=>c (Cg _ hw d)),Ch]
 rw[e]
 by_cases c:T=0
 ·rw[if_pos c,c];exact rQ _
 ·rw[if_neg c];exact rR c
theorem gK {q:Int} (hq:ax q) (h:aF q=true):ax (neg q)∧aF (neg q)=true∧iV (neg q)=-iV q:=by
 obtain⟨b1,b2⟩:=dr hq h
 have h1:=(dU hq).1 h
 have e:neg q=aK (!decide (q<0)) (rg q):=by
  unfold neg aK rg
  rw[if_neg b1]
  by_cases c:q<0
  ·rw[if_pos c,if_pos c,decide_eq_true c];rfl
  ·rw[if_neg c,if_neg c,decide_eq_false c];rfl
 have h0:0<=rg q:=by unfold rg;unfold ax at hq;split<;>omega
 obtain⟨c1,c2,c3⟩:=fu (ng:=!decide (q<0)) h0 (by omega)
 refine⟨by rw[e];exact c1,by rw[e,lc h0 (by omega)];exact decide_eq_true h1,?_⟩
 rw[e,oQ h0 (by omega)]
 unfold iV
 rw[qM]
theorem Bh {q:Int} (hq:ax q) (h:aF (neg q)=true):aF q=true:=by
 unfold neg at h
 by_cases c:aL q=4
 ·rw[if_pos c,nV] at h;cases h
 ·by_cases ci:rg q=9218868437227405312
  ·exfalso
   rw[if_neg c] at h
   have hr:ax (if q<0 then q+9223372036854775808 else q-9223372036854775808):=by unfold ax at *;split<;>omega
   have:=(dU hr).1 h
   unfold rg at this ci
   split at this<;>split at ci<;>split at this<;>omega
  ·exact ma hq c ci
theorem ei {q:Int} (hq:ax q):ax (neg q):=by
 unfold neg ax at *
 split
 ·omega
 ·split<;>omega
theorem fR {p q:Int} (hp:ax p) (hq:ax q) (pp:aF p=true) (pq:aF q=true):rP (iV p-iV q) (aE p (neg q)):=by
 obtain⟨a,b,c⟩:=gK hq pq
 have:=im hp a pp b
 rw[c] at this
 exact this
theorem ld {p q:Int} (hp:ax p) (hq:ax q) (h:aF (aE p (neg q))=true):aF p=true∧aF q=true:=by
 obtain⟨a,b⟩:=pT hp (ei hq) h
 exact⟨a,Bh hq b⟩
theorem bs {p q:Int} (hp:ax p) (hq:ax q):ax (aE p q):=by
 by_cases h:aF p=true∧aF q=true
 ·exact(im hp hq h.1 h.2).rn
 ·unfold aE
  by_cases c4:aL p=4∨aL q=4
  ·rw[if_pos c4];exact kn
  rw[if_neg c4]
  by_cases ci:rg p=9218868437227405312
  ·rw[if_pos ci];split
   ·exact kn
   ·exact hp
  rw[if_neg ci]
  by_cases cj:rg q=9218868437227405312
  ·rw[if_pos cj];exact hq
  exact absurd ⟨ma hp (fun c=>c4 (.inl c)) ci,ma hq (fun c=>c4 (.inr c)) cj⟩ h
theorem aS {p q:Int} (hp:ax p) (hq:ax q):ax (ay p q):=by
 unfold ay
 split
 ·exact kn
 ·split
  ·split
   ·exact kn
   ·exact(fu (by decide) (by decide)).1
  ·split
   ·exact(fu (by decide) (by decide)).1
   ·rename_i h
    exact(gJ (fun c=>h (iX c))).1
def sV (p q:Int):Int:=aE (aE p q) (neg p)
def sL (p q:Int):Int:=aE (aE p (neg (aE (aE p q) (neg (sV p q))))) (aE q (neg (sV p q)))
def fL (p q:Int):Int:=aE q (neg (aE (aE p q) (neg p)))
def cC (p:Int):Int:=ay 4728779608772575232 p
def wY (p:Int):Int:=aE (cC p) (neg (aE (cC p) (neg p)))
def zR (p:Int):Int:=aE p (neg (wY p))
def EN (a b:Int):Int:=aE (ay a b) (neg (ay (wY a) (wY b)))
def EO (a b:Int):Int:=aE (EN a b) (neg (ay (zR a) (wY b)))
def EP (a b:Int):Int:=aE (EO a b) (neg (ay (wY a) (zR b)))
def rW (a b:Int):Int:=aE (ay (zR a) (zR b)) (neg (EP a b))
theorem mz (p:Int):Fl (iV p):=by
 unfold iV
 cases decide (p<0)
 ·exact oP _
 ·exact(oP _).neg
theorem ko (p:Int):((iV p).natAbs:Int)=(V Ieee.double (rg p).toNat:Int):=by
 unfold iV sg
 cases decide (p<0)
 ·simp
 ·simp
theorem zd {p q:Int} (hp:ax p) (hq:ax q) (h:aF (sL p q)=true):(aF p=true∧aF q=true)∧aF (aE p q)=true∧iV (aE p q)+iV (sL p q)=iV p+iV q:=by
 have rh:=bs hp hq
 have rv:ax (sV p q):=bs rh (ei hp)
 have rU:=bs rh (ei rv)
 have rX:=bs hp (ei rU)
 have rY:=bs hq (ei rv)
 obtain⟨pX,pY⟩:=pT rX rY h
 obtain⟨pp,pU⟩:=ld hp rU pX
 obtain⟨pq,pv⟩:=ld hq rv pY
 obtain⟨ph,_⟩:=ld rh hp pv
 have e:=Bc (mz p) (mz q) ((im hp hq pp pq).nr ph) ((fR rh hp ph pp).nr pv) ((fR rh rv ph pv).nr pU) ((fR hp rU pp pU).nr pX) ((fR hq rv pq pv).nr pY) ((im rX rY pX pY).nr h)
 exact⟨⟨pp,pq⟩,ph,by unfold sL;omega⟩
theorem lh {p q:Int} (hp:ax p) (hq:ax q) (pp:aF p=true) (pq:aF q=true):aE p q=if aq p+aq q=0 then aK (decide (p<0)&&decide (q<0)) 0 else dp (aq p+aq q):=by
 obtain⟨a1,a2⟩:=dr hp pp
 obtain⟨b1,b2⟩:=dr hq pq
 unfold aE
 rw[if_neg (fun c=>c.elim a1 b1),if_neg a2,if_neg b2]
theorem wZ {p q:Int} (hp:ax p) (hq:ax q) (pp:aF p=true) (pq:aF q=true):aE p q=aE q p:=by
 rw[lh hp hq pp pq,lh hq hp pq pp,Int.add_comm (aq q),Bool.and_comm (decide (q<0))]
def fX (p q:Int):Bool:=aF (fL p q)&&(!decide ((iV p).natAbs<(iV q).natAbs)||decide (iV (fL p q)=iV (fL q p)))
end Go.Proofs.YtcklaogdjpbagaaGreatDoor
/-
 Mathematics of whole numbers: a float's whole units,ints as floats,the order of floats in the model.
-/
namespace Go.Proofs.YtcklaogdjpbagaaGreatDoor.M
open Go Ieee
theorem xf {A q:Int} {u v:Nat} {l k:Int} (h:gS A u q l) (g:gS A v q k):¬ u<v:=fun c=>by
 have h1:=h.hi
 have h2:=g.lo
 have hq:0<q:=by have:=h.lo;omega
 have h3:((u:Int)+1)*q<=(v:Int)*q:=Int.mul_le_mul_of_nonneg_right (by omega) (by omega)
 rw[Int.add_mul,Int.one_mul] at h3
 omega
theorem gS.unique {A q:Int} {u v:Nat} {l k:Int} (h:gS A u q l) (g:gS A v q k):u=v∧l=k:=by
 have e:u=v:=by
  have h1:=xf h g
  have h2:=xf g h
  omega
 subst e
 refine⟨rfl,?_⟩
 have lo:=h.lo
 have hi:=h.hi
 obtain⟨T,hT⟩:∃ T,(u:Int)*q=T:=⟨_,rfl⟩
 rw[hT] at lo hi
 have a0:=h.l0
 have a1:=h.l1
 have a2:=h.l2
 have a3:=h.l3
 have b0:=g.l0
 have b1:=g.l1
 have b2:=g.l2
 have b3:=g.l3
 rw[hT] at a0 a1 a2 a3 b0 b1 b2 b3
 by_cases c0:A=T
 ·rw[a0.2 c0,b0.2 c0]
 ·by_cases c1:2*A<2*T+q
  ·rw[a1.2 ⟨by omega,c1⟩,b1.2 ⟨by omega,c1⟩]
  ·by_cases c2:2*A=2*T+q
   ·rw[a2.2 c2,b2.2 c2]
   ·rw[a3.2 (by omega),b3.2 (by omega)]
end Go.Proofs.YtcklaogdjpbagaaGreatDoor.M
namespace Go.Proofs.YtcklaogdjpbagaaGreatDoor
open Go Go.RowKit Go.Proofs.YtcklaogdjpbagaaGreatDoor.M Ieee
end Go.Proofs.YtcklaogdjpbagaaGreatDoor
namespace Go.Proofs.YtcklaogdjpbagaaGreatDoor
open Go Go.RowKit Go.Proofs.YtcklaogdjpbagaaGreatDoor.M Ieee
theorem FW.rng {p:Int} {x:Nat} (h:FW p x):M.ax p:=by
 rcases h with⟨_,h,_⟩|⟨rfl,_⟩
 ·exact h
 ·exact kn
theorem ze {p:Int} (hp:M.ax p) (h4:¬ aL p=4):decide (M.neg p<0)=!decide (p<0)∧rg (M.neg p)=rg p∧¬ aL (M.neg p)=4:=by
 have h0:0<=rg p∧rg p<9223372036854775808:=by unfold rg;unfold M.ax at hp;split<;>omega
 have e:rg (M.neg p)=rg p∧decide (M.neg p<0)=!decide (p<0):=by
  unfold M.neg rg
  rw[if_neg h4]
  unfold M.ax at hp
  by_cases c:p<0
  ·rw[if_pos c,decide_eq_true c,if_neg (by omega)]
   exact⟨by rw[if_pos c],decide_eq_false (by omega)⟩
  ·rw[if_neg c,decide_eq_false c,if_pos (by omega)]
   exact⟨by rw[if_neg c];omega,decide_eq_true (by omega)⟩
 refine⟨e.2,e.1,fun c=>?_⟩
 have:=(dT (ei hp)).1.1 c
 rw[e.1] at this
 exact h4 ((dT hp).1.2 this)
end Go.Proofs.YtcklaogdjpbagaaGreatDoor
/-
 Package eft: math.Abs,FastTwoSum,reachable,TwoProd,by their contracts.
-/
namespace Go.Proofs.YtcklaogdjpbagaaGreatDoor
open Go Go.RowKit Go.Proofs.YtcklaogdjpbagaaGreatDoor.M Ieee
theorem FW.fin {p:Int} {x:Nat} (h:FW p x) (g:aF p=true):x=wd p:=by
 rcases h with⟨_,_,h⟩|⟨rfl,_⟩
 ·exact h
 ·rw[nV] at g;cases g
end Go.Proofs.YtcklaogdjpbagaaGreatDoor
namespace Go.Proofs.YtcklaogdjpbagaaGreatDoor
open Go Go.RowKit Go.Proofs.YtcklaogdjpbagaaGreatDoor.M Ieee
def zS (a b:Int):Bool:=decide (bI a=0)||decide (bI b=0)||decide (-1074<=bK a+jz (bI a)+bK b+jz (bI b))
end Go.Proofs.YtcklaogdjpbagaaGreatDoor
