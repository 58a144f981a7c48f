/- Parts of the proof. -/
import Derived.Test.YtcklaogdjpbagaaGreatDoorPart8
import Derived.Laws.FloatArith
import Derived.Test.YtcklaogdjpbagaaGreatDoorPart6
import Derived.Test.YtcklaogdjpbagaaGreatDoorPart4
set_option maxRecDepth 100000
set_option maxHeartbeats 8000000
set_option linter.unusedVariables false
set_option linter.unusedSimpArgs false
namespace Go.Proofs.YtcklaogdjpbagaaGreatDoor
open Go Go.Proofs.Tryz Go.RowKit Go.Proofs.YtcklaogdjpbagaaGreatDoor.M Ieee
theorem tN {g h:Bool} {x y p q r Z:Int} (e:p*q=r*Z):sg (g != h) (x*y*r)*Z=sg g (x*p)*sg h (y*q):=by
 rw[sW,mG]
 congr 1
 rw[Int.mul_assoc (x*y),<- e,Int.mul_assoc x y,Int.mul_assoc x p]
 congr 1
 rw[<- Int.mul_assoc,<- Int.mul_assoc,Int.mul_comm y p]
theorem tO (g h:Bool):(g ^^ h)=(g != h):=by cases g<;>cases h<;>rfl
theorem AX {a b:Int} (ha:ar a) (hb:ar b) (pa:ay a=true) (pb:ay b=true) :
  ∃ D:Int,0<=D∧sg (decide (a<0) != decide (b<0)) D*2^4194304=au a*au b ∧
   (D=0->Ieee.double.mul (wd a) (wd b)=some (wd (aC (decide (a<0) != decide (b<0)) 0))) ∧
   (D≠0->∃ (r0:Nat) (left:Int),eg D r0 left∧Ieee.double.mul (wd a) (wd b)=some (wd (aC (decide (a<0) != decide (b<0)) (bL 0 (decide (a<0) != decide (b<0)) r0 left)))):=by
 obtain⟨m,u,h1,v1⟩:=fJ ha pa
 obtain⟨n,v,h2,v2⟩:=fJ hb pb
 have hmul:Ieee.double.mul (wd a) (wd b)=some (Ieee.double.nearest (decide (a<0) != decide (b<0)) (m*n) (-1074+(u:Int)+(-1074+(v:Int)))):=by
  unfold Format.mul
  rw[h1,h2]
  unfold Datum.product
  dsimp only
  rw[tO]
  rfl
 have hpm:=j8 (a:=-1074+(u:Int)) (b:=-1074+(v:Int)) (by omega) (by omega)
 have hB:-4194304 <= -1074+(u:Int)+(-1074+(v:Int)):=by omega
 have hq:=bX (-1074+(u:Int)+(-1074+(v:Int)))
 have hC:=tN (g:=decide (a<0)) (h:=decide (b<0)) (x:=(m:Int)) (y:=(n:Int)) hpm
 rw[<- v1,<- v2] at hC
 generalize -1074+(u:Int)+(-1074+(v:Int))=base at *
 have hcast:((m*n:Nat):Int)=(m:Int)*(n:Int):=by push_cast;rfl
 refine⟨(m:Int)*(n:Int)*pw base,Int.mul_nonneg (by rw[<- hcast];omega) (Int.le_of_lt hq),hC,fun h=>?_,fun h=>?_⟩
 ·have h0:m*n=0:=by
   rcases Int.mul_eq_zero.1 h with g|g
   ·rw[<- hcast] at g;omega
   ·omega
  rw[hmul,h0]
  unfold Format.nearest
  rw[if_pos rfl]
  have:=ia (ng:=decide (a<0) != decide (b<0)) (r:=0) (by decide) (by decide)
  rw[<- this]
  rfl
 ·have h0:m*n≠0:=fun e=>h (by rw[<- hcast,e];simp)
  obtain⟨r0,left,hR,hE⟩:=ku (decide (a<0) != decide (b<0)) (place:=base) h0 hB
  rw[hcast] at hR
  refine⟨r0,left,hR,?_⟩
  rw[hmul,hE]
  obtain⟨g1,g2⟩:=dW 0 (decide (a<0) != decide (b<0)) r0 left
  rw[ia g1 g2]
def oT (z:Nat):Prop:=z<18446744073709551616∧9218868437227405312<z % 9223372036854775808
theorem xK (x y t:Nat):oT ((Question.nanBits .f64 x y).cut t):=by
 have h:(Question.nanBits .f64 x y).cut t=(t % 2)*2^63+0x7ff0000000000000+1+(t/2) % (2^52-1):=rfl
 have e63:(2:Nat)^63=9223372036854775808:=by decide
 have e52:(2:Nat)^52-1=4503599627370495:=by decide
 rw[h,e63,e52]
 have hc:=Nat.mod_lt (t/2) (show 0<4503599627370495 by decide)
 have hm:t % 2=0∨t % 2=1:=by omega
 generalize t/2 % 4503599627370495=c at *
 unfold oT
 rcases hm with h2|h2
 ·rw[h2];omega
 ·rw[h2];omega
theorem jK {P:Program} (op:BinOp) (ho:op=.add∨op=.sub∨op=.mul∨op=.quo) (t:TypeId) (x y:Nat) (w:World) :
  ∃ z w',(binOp op t (.float .f64 x) (.float .f64 y)).run P w=.ok (.float .f64 z) w'∧((floatBits op .f64 x y=some z∧w'=w)∨(floatBits op .f64 x y=none∧oT z∧w'=w.drew)):=by
 cases h:floatBits op .f64 x y with
 | some r=>exact⟨r,w,run_float_arith w op t .f64 x y r h,.inl ⟨rfl,rfl⟩⟩
 | none=>
  refine⟨_,w.drew,?_,.inr ⟨rfl,xK x y (w.tape w.drawn (.nanBits .f64 x y)),rfl⟩⟩
  unfold floatBits at h
  rcases ho with rfl|rfl|rfl|rfl<;>simp only at h<;>simp[binOp,Op.floatArith,h]<;>exact fun hf=>absurd (show false=true from hf) (by decide)
def FW (p:Int) (x:Nat):Prop:=(aF p≠4∧ar p∧x=wd p)∨(p=9221120237041090561∧oT x)
def vH (x:Nat):Int:=if x<9223372036854775808 then (x:Int) else (x:Int)-18446744073709551616
theorem xM {p:Int} (h:ar p):vH (wd p)=p:=by
 unfold ar at h
 unfold vH wd
 split<;>omega
def cT (S:Int):Int:=vH (Ieee.double.nearest (decide (S<0)) S.natAbs (-4194304))
theorem vI:pw (-4194304)=1:=by unfold pw;rfl
theorem iu {ng:Bool} {r:Int} (h0:0<=r) (h1:r<=9218868437227405312):ar (aC ng r)∧aF (aC ng r)≠4:=by
 have hr:ar (aC ng r):=by unfold ar aC;cases ng<;>simp<;>omega
 refine⟨hr,fun q=>?_⟩
 have:=(dp hr).1.1 q
 unfold rg aC at this
 cases ng
 ·simp only[Bool.false_eq_true,if_false] at this;split at this<;>omega
 ·simp only[if_true] at this;split at this<;>omega
theorem fm {S:Int} (h:S≠0):∃ (A:Int) (r0:Nat) (left:Int),S=sg (decide (S<0)) A∧eg A r0 left∧cT S=aC (decide (S<0)) (bL 0 (decide (S<0)) r0 left):=by
 obtain⟨A,r0,left,h1,h2,h3⟩:=lY (S:=S) (t:=S) (base:=-4194304) (by decide) (by rw[vI,Int.mul_one]) h
 refine⟨A,r0,left,h1,h2,?_⟩
 unfold cT
 rw[h3]
 obtain⟨g1,g2⟩:=dW 0 (decide (S<0)) r0 left
 exact xM (iu g1 g2).1
theorem kv {g:Bool} {A B:Int} (h:sg g A=sg g B):A=B:=by
 cases g
 ·exact h
 ·exact Int.neg_inj.1 h
def az (p q:Int):Int :=
 if aF p=4∨aF q=4 then 9221120237041090561
 else if rg p=9218868437227405312 then (if rg q=9218868437227405312∧decide (p<0)≠decide (q<0) then 9221120237041090561 else p)
 else if rg q=9218868437227405312 then q
 else if au p+au q=0 then aC (decide (p<0)&&decide (q<0)) 0 else cT (au p+au q)
theorem dr {p:Int} (hp:ar p):ay p=true↔rg p<9218868437227405312:=by
 obtain⟨r0,r1⟩:=ew hp
 have hf:0<=bT p∧bT p<4503599627370496:=by unfold bT;omega
 have hg:0<=bG p∧bG p<2048:=by unfold bG;omega
 unfold ay
 simp
 omega
theorem vJ {p q:Int} (hp:ar p) (hq:ar q) (pp:ay p=true) (pq:ay q=true):Ieee.double.add (wd p) (wd q)=some (wd (if au p+au q=0 then aC (decide (p<0)&&decide (q<0)) 0 else cT (au p+au q))):=by
 obtain⟨h0,h1⟩:=AW hp hq pp pq
 by_cases hS:au p+au q=0
 ·rw[if_pos hS];exact h0 hS
 ·rw[if_neg hS]
  obtain⟨A,r0,left,a1,a2,a3⟩:=h1 hS
  obtain⟨B,s0,k,b1,b2,b3⟩:=fm hS
  have hAB:=kv (a1.symm.trans b1)
  subst hAB
  obtain⟨h2,h3⟩:=a2.unique b2
  subst h2 h3
  rw[a3,b3]
theorem fo {p:Int} (hp:ar p) (h:rg p=9218868437227405312):Ieee.double.read (wd p)=.infinity (decide (p<0)):=by
 have hw:((wd p % 9223372036854775808:Nat):Int)=rg p:=kK hp
 have:=js Ieee.double ww (wd p) (by rw[fe,jt];omega)
 rwa [fe,kd hp] at this
theorem iU {p:Int} (hp:ar p) (h:rg p=9218868437227405312):Ieee.double.write (.infinity (decide (p<0)))=wd p:=by
 unfold Format.write
 dsimp only
 rw[jt]
 have:=ia (ng:=decide (p<0)) (r:=9218868437227405312) (by decide) (by decide)
 have e:aC (decide (p<0)) 9218868437227405312=p:=by
  unfold rg at h
  unfold aC
  by_cases h0:p<0
  ·rw[if_pos h0] at h;rw[decide_eq_true h0,if_pos rfl];omega
  ·rw[if_neg h0] at h;rw[decide_eq_false h0,if_neg (by decide)];omega
 rw[e] at this
 exact this
theorem iH:aF 9221120237041090561=4:=by decide
theorem FW.nan {x:Nat} (h:oT x):FW 9221120237041090561 x:=.inr ⟨rfl,h⟩
theorem FW.pat {p:Int} (h:aF p≠4) (hp:ar p):FW p (wd p):=.inl ⟨h,hp,rfl⟩
theorem FW.read_nan {p:Int} {x:Nat} (h:FW p x) (h4:aF p=4):∃ s t,Ieee.double.read x=.nan s t:=by
 rcases h with⟨h,_⟩|⟨_,h⟩
 ·exact absurd h4 h
 ·exact M.oj Ieee.double ww x (by rw[fe,jt];exact h.2)
theorem FW.of {p:Int} {x:Nat} (h:FW p x) (h4:aF p≠4):ar p∧x=wd p∧0<=rg p∧rg p<=9218868437227405312:=by
 rcases h with⟨_,h1,h2⟩|⟨h,_⟩
 ·obtain⟨r0,_⟩:=ew h1
  refine⟨h1,h2,r0,?_⟩
  rcases Int.lt_or_le 9218868437227405312 (rg p) with g|g
  ·exact absurd ((dp h1).1.2 g) h4
  ·exact g
 ·rw[h] at h4;exact absurd iH h4
theorem fK {S:Int} (h:S≠0):ar (cT S)∧aF (cT S)≠4:=by
 obtain⟨A,r0,left,_,_,e⟩:=fm h
 rw[e]
 obtain⟨g1,g2⟩:=dW 0 (decide (S<0)) r0 left
 exact iu g1 g2
theorem oU {p q:Int} {x y:Nat} (hx:FW p x) (hy:FW q y):(∃ z,Ieee.double.add x y=some z∧FW (az p q) z)∨(Ieee.double.add x y=none∧az p q=9221120237041090561):=by
 by_cases h4:aF p=4∨aF q=4
 ·right
  refine⟨?_,by unfold az;rw[if_pos h4]⟩
  unfold Format.add
  rcases h4 with h|h
  ·obtain⟨s,t,e⟩:=hx.read_nan h
   rw[e]
   rfl
  ·obtain⟨s,t,e⟩:=hy.read_nan h
   rw[e]
   cases Ieee.double.read x<;>rfl
 ·have h4p:aF p≠4:=fun h=>h4 (.inl h)
  have h4q:aF q≠4:=fun h=>h4 (.inr h)
  obtain⟨rp,rfl,p0,p1⟩:=hx.of h4p
  obtain⟨rq,rfl,q0,q1⟩:=hy.of h4q
  unfold az
  rw[if_neg h4]
  by_cases ip:rg p=9218868437227405312
  ·rw[if_pos ip]
   have ep:=fo rp ip
   by_cases iq:rg q=9218868437227405312
   ·have eq:=fo rq iq
    by_cases hs:decide (p<0)=decide (q<0)
    ·left
     refine⟨wd p,?_,?_⟩
     ·unfold Format.add
      rw[ep,eq]
      unfold Datum.sum
      dsimp only
      rw[if_pos hs]
      show some (Ieee.double.write (.infinity (decide (p<0))))=_
      rw[iU rp ip]
     ·rw[if_neg (fun h=>h.2 hs)]
      exact FW.pat h4p rp
    ·right
     refine⟨?_,by rw[if_pos ⟨iq,hs⟩]⟩
     unfold Format.add
     rw[ep,eq]
     unfold Datum.sum
     dsimp only
     rw[if_neg hs]
     rfl
   ·left
    obtain⟨m,u,eq,_⟩:=fJ rq ((dr rq).2 (by omega))
    refine⟨wd p,?_,?_⟩
    ·unfold Format.add
     rw[ep,eq]
     show some (Ieee.double.write (.infinity (decide (p<0))))=_
     rw[iU rp ip]
    ·rw[if_neg (fun h=>iq h.1)]
     exact FW.pat h4p rp
  ·rw[if_neg ip]
   have pp:=(dr rp).2 (by omega)
   by_cases iq:rg q=9218868437227405312
   ·left
    rw[if_pos iq]
    have eq:=fo rq iq
    obtain⟨m,u,ep,_⟩:=fJ rp pp
    refine⟨wd q,?_,FW.pat h4q rq⟩
    unfold Format.add
    rw[ep,eq]
    show some (Ieee.double.write (.infinity (decide (q<0))))=_
    rw[iU rq iq]
   ·left
    rw[if_neg iq]
    refine⟨_,vJ rp rq pp ((dr rq).2 (by omega)),?_⟩
    by_cases hS:au p+au q=0
    ·rw[if_pos hS]
     obtain⟨g1,g2⟩:=iu (ng:=decide (p<0)&&decide (q<0)) (r:=0) (by decide) (by decide)
     exact FW.pat g2 g1
    ·rw[if_neg hS]
     exact FW.pat (fK hS).2 (fK hS).1
theorem tP {x y:Nat} (h1:x % Ieee.double.signWeight=y % Ieee.double.signWeight) (h2:(x/Ieee.double.signWeight % 2 == 1)=!(y/Ieee.double.signWeight % 2 == 1)):Ieee.double.read x=(Ieee.double.read y).opposite:=by
 unfold Format.read
 dsimp only
 rw[h1,h2]
 split
 ·rfl
 ·split
  ·rfl
  ·split
   ·rfl
   ·rfl
theorem vM {q:Int} (hq:ar q) (h4:aF q≠4):Ieee.double.read (wd (neg q))=(Ieee.double.read (wd q)).opposite:=by
 have hn:neg q=if q<0 then q+9223372036854775808 else q-9223372036854775808:=by unfold neg;rw[if_neg h4]
 refine tP ?_ ?_
 ·rw[fe,hn]
  unfold ar at hq
  unfold wd
  split<;>omega
 ·rw[fe,kd (gi hq),kd hq,hn]
  unfold ar at hq
  by_cases h:q<0
  ·rw[if_pos h,decide_eq_false (p:=q+9223372036854775808<0) (by omega),decide_eq_true h];rfl
  ·rw[if_neg h,decide_eq_true (p:=q-9223372036854775808<0) (by omega),decide_eq_false h];rfl
theorem xN {q:Int} (h:aF q=4):neg q=9221120237041090561:=by unfold neg;rw[if_pos h]
theorem yU {p q:Int} {x y:Nat} (hx:FW p x) (hy:FW q y):(∃ z,Ieee.double.sub x y=some z∧FW (az p (neg q)) z)∨(Ieee.double.sub x y=none∧az p (neg q)=9221120237041090561):=by
 by_cases h4:aF q=4
 ·right
  refine⟨?_,by unfold az;rw[xN h4,if_pos (.inr iH)]⟩
  obtain⟨s,t,e⟩:=hy.read_nan h4
  unfold Format.sub
  rw[e]
  cases Ieee.double.read x<;>rfl
 ·obtain⟨rq,rfl,_,_⟩:=hy.of h4
  have hs:Ieee.double.sub x (wd q)=Ieee.double.add x (wd (neg q)):=by
   unfold Format.sub Format.add
   rw[vM rq h4]
  rw[hs]
  exact oU hx (FW.pat (xG rq h4) (gi rq))
def gh (p q:Int):Bool:=decide (p<0) != decide (q<0)
def ft (p q:Int):Int:=sg (gh p q) (au p*au q/2^4194304)
def aw (p q:Int):Int :=
 if aF p=4∨aF q=4 then 9221120237041090561
 else if rg p=9218868437227405312∨rg q=9218868437227405312 then (if rg p=0∨rg q=0 then 9221120237041090561 else aC (gh p q) 9218868437227405312)
 else if ft p q=0 then aC (gh p q) 0 else cT (sg (gh p q) (ft p q))
theorem vN {g:Bool} {D Z C:Int} (hZ:0<Z) (h:sg g D*Z=C):sg g (C/Z)=D:=by
 rw[<- h,Int.mul_ediv_cancel _ (Int.ne_of_gt hZ)]
 cases g
 ·rfl
 ·exact Int.neg_neg D
theorem oV {g:Bool} {D:Int} {r0:Nat} {left:Int} (h0:0<D) (hR:eg D r0 left):cT (sg g D)=aC g (bL 0 g r0 left):=by
 have hd:decide (sg g D<0)=g:=by
  cases g
  ·exact decide_eq_false (by show ¬ D<0;omega)
  ·exact decide_eq_true (by show -D<0;omega)
 have hn:sg g D≠0:=by
  cases g
  ·show D≠0;omega
  ·show -D≠0;omega
 obtain⟨A,s0,k,e1,e2,e3⟩:=fm hn
 rw[hd] at e1 e3
 have:=kv e1
 subst this
 obtain⟨h1,h2⟩:=hR.unique e2
 subst h1 h2
 exact e3
theorem vO {p q:Int} (hp:ar p) (hq:ar q) (pp:ay p=true) (pq:ay q=true):Ieee.double.mul (wd p) (wd q)=some (wd (if ft p q=0 then aC (gh p q) 0 else cT (sg (gh p q) (ft p q)))):=by
 obtain⟨D,d0,d1,d2,d3⟩:=AX hp hq pp pq
 have hf:ft p q=D:=vN (aB 4194304) d1
 rw[hf]
 by_cases h:D=0
 ·rw[if_pos h];exact d2 h
 ·rw[if_neg h]
  obtain⟨r0,left,hR,hE⟩:=d3 h
  rw[hE,oV (by omega) hR]
  rfl
theorem jL (g:Bool):Ieee.double.write (.infinity g)=wd (aC g 9218868437227405312):=by
 unfold Format.write
 dsimp only
 rw[jt]
 exact ia (ng:=g) (r:=9218868437227405312) (by decide) (by decide)
theorem oW {q:Int} {m u:Nat} (hq:ar q) (pq:ay q=true) (h:au q=sg (decide (q<0)) ((m:Int)*pw (-1074+(u:Int)))):m=0↔rg q=0:=by
 have e:=lz hq pq
 rw[h] at e
 have e2:=kv e
 obtain⟨r0,r1⟩:=rR hq pq
 constructor
 ·intro hm
  rw[hm] at e2
  have e3:vS (rg q).toNat=0:=by rw[<- e2];simp
  rcases Nat.eq_zero_or_pos (rg q).toNat with g|g
  ·omega
  ·have:=kP g
   rw[fk,e3] at this
   exact absurd this (Int.lt_irrefl _)
 ·intro hr
  rw[hr] at e2
  have e3:(m:Int)*pw (-1074+(u:Int))=0:=by rw[e2];exact fk
  have:=(ld (bX (-1074+(u:Int)))).2 e3
  omega
theorem tQ {p q:Int} {x y:Nat} (hx:FW p x) (hy:FW q y):(∃ z,Ieee.double.mul x y=some z∧FW (aw p q) z)∨(Ieee.double.mul x y=none∧aw p q=9221120237041090561):=by
 by_cases h4:aF p=4∨aF q=4
 ·right
  refine⟨?_,by unfold aw;rw[if_pos h4]⟩
  unfold Format.mul
  rcases h4 with h|h
  ·obtain⟨s,t,e⟩:=hx.read_nan h
   rw[e]
   rfl
  ·obtain⟨s,t,e⟩:=hy.read_nan h
   rw[e]
   cases Ieee.double.read x<;>rfl
 ·have h4p:aF p≠4:=fun h=>h4 (.inl h)
  have h4q:aF q≠4:=fun h=>h4 (.inr h)
  obtain⟨rp,rfl,p0,p1⟩:=hx.of h4p
  obtain⟨rq,rfl,q0,q1⟩:=hy.of h4q
  have hI:=iu (ng:=gh p q) (r:=9218868437227405312) (by decide) (by decide)
  have hX:(decide (p<0) ^^ decide (q<0))=gh p q:=tO _ _
  have hX2:(decide (q<0) ^^ decide (p<0))=gh p q:=by rw[<- hX];cases decide (p<0)<;>cases decide (q<0)<;>rfl
  unfold aw
  rw[if_neg h4]
  by_cases ip:rg p=9218868437227405312
  ·rw[if_pos (.inl ip)]
   have ep:=fo rp ip
   by_cases iq:rg q=9218868437227405312
   ·left
    rw[if_neg (by omega)]
    refine⟨_,?_,FW.pat hI.2 hI.1⟩
    unfold Format.mul
    rw[ep,fo rq iq]
    show some (Ieee.double.write (.infinity (decide (p<0) ^^ decide (q<0))))=_
    rw[jL,hX]
   ·have pq:=(dr rq).2 (by omega)
    obtain⟨m,u,eq,vq⟩:=fJ rq pq
    have hz:=oW rq pq vq
    by_cases hm:m=0
    ·right
     refine⟨?_,by rw[if_pos (.inr (hz.1 hm))]⟩
     unfold Format.mul
     rw[ep,eq,hm]
     rfl
    ·left
     rw[if_neg (fun h=>by rcases h with h|h;omega;exact hm (hz.2 h))]
     refine⟨_,?_,FW.pat hI.2 hI.1⟩
     unfold Format.mul
     rw[ep,eq]
     unfold Datum.product
     dsimp only
     rw[if_neg hm]
     show some (Ieee.double.write (.infinity (decide (p<0) ^^ decide (q<0))))=_
     rw[jL,hX]
  ·have pp:=(dr rp).2 (by omega)
   by_cases iq:rg q=9218868437227405312
   ·rw[if_pos (.inr iq)]
    obtain⟨m,u,ep,vp⟩:=fJ rp pp
    have hz:=oW rp pp vp
    have eq:=fo rq iq
    by_cases hm:m=0
    ·right
     refine⟨?_,by rw[if_pos (.inl (hz.1 hm))]⟩
     unfold Format.mul
     rw[ep,eq,hm]
     rfl
    ·left
     rw[if_neg (fun h=>by rcases h with h|h;exact hm (hz.2 h);omega)]
     refine⟨_,?_,FW.pat hI.2 hI.1⟩
     unfold Format.mul
     rw[ep,eq]
     unfold Datum.product
     dsimp only
     rw[if_neg hm]
     show some (Ieee.double.write (.infinity (decide (q<0) ^^ decide (p<0))))=_
     rw[jL,hX2]
   ·left
    rw[if_neg (by omega)]
    refine⟨_,vO rp rq pp ((dr rq).2 (by omega)),?_⟩
    by_cases hS:ft p q=0
    ·rw[if_pos hS]
     obtain⟨g1,g2⟩:=iu (ng:=gh p q) (r:=0) (by decide) (by decide)
     exact FW.pat g2 g1
    ·rw[if_neg hS]
     have hn:sg (gh p q) (ft p q)≠0:=by
      generalize ft p q=D at *
      cases gh p q
      ·exact hS
      ·show -D≠0;omega
     exact FW.pat (fK hn).2 (fK hn).1
end Go.Proofs.YtcklaogdjpbagaaGreatDoor
namespace Go.Proofs.YtcklaogdjpbagaaGreatDoor.M
def Fl (n:Int):Prop:=∃ k:Nat,(2^k:Int) ∣ n∧(n.natAbs:Int)<9007199254740992*2^k
def Nr (S h:Int):Prop:=Fl h∧∀ f,Fl f->(h-S).natAbs<=(f-S).natAbs
theorem p2 (k:Nat):(0:Int)<2^k:=Int.pow_pos (by decide)
theorem iI (k:Nat):(2:Int)^(k+1)=2*2^k:=by rw[Int.pow_succ,Int.mul_comm]
theorem hG {j k:Nat} (h:j<=k):(2^j:Int) ∣ 2^k:=⟨2^(k-j),by rw[<- Int.pow_add,Nat.add_sub_cancel' h]⟩
theorem kw {j k:Nat} (h:j<=k):(2:Int)^j<=2^k:=Int.le_of_dvd (p2 k) (hG h)
theorem vP {j k:Nat} (h:(2:Int)^j<2^k):j<k:=by
 rcases Nat.lt_or_ge j k with c|c
 ·exact c
 ·have:=kw c;omega
theorem Fl.neg {n:Int} (h:Fl n):Fl (-n):=by
 obtain⟨k,d,b⟩:=h
 exact⟨k,(Int.dvd_neg).2 d,by rw[Int.natAbs_neg];exact b⟩
theorem i9:Fl 0:=⟨0,⟨0,by simp⟩,by simp⟩
theorem lZ {n:Int} {k:Nat} (d:(2^k:Int) ∣ n) (b:(n.natAbs:Int)<=9007199254740992*2^k):Fl n:=by
 by_cases c:(n.natAbs:Int)<9007199254740992*2^k
 ·exact⟨k,d,c⟩
 ·have e:(n.natAbs:Int)=9007199254740992*2^k:=by omega
  refine⟨k+1,?_,?_⟩
  ·rw[<- Int.dvd_natAbs,e,iI]
   exact⟨4503599627370496,by omega⟩
  ·rw[iI];have:=p2 k;omega
theorem Fl.dbl {n:Int} (h:Fl n):Fl (2*n):=by
 obtain⟨k,⟨c,rfl⟩,b⟩:=h
 refine⟨k+1,⟨c,by rw[iI,Int.mul_assoc]⟩,?_⟩
 rw[iI]
 omega
theorem Nr.neg {S h:Int} (n:Nr S h):Nr (-S) (-h):=by
 refine⟨n.1.neg,fun f hf=>?_⟩
 have:=n.2 (-f) hf.neg
 omega
theorem dI {S h:Int} (hS:Fl S) (n:Nr S h):h=S:=by
 have:=n.2 S hS
 omega
theorem oX {x y:Int} (hx:Fl x) (hy:Fl y) (h1:(x-y).natAbs<=x.natAbs) (h2:(x-y).natAbs<=y.natAbs):Fl (x-y):=by
 obtain⟨j,dx,bx⟩:=hx
 obtain⟨k,dy,by1⟩:=hy
 rcases Nat.le_total j k with c|c
 ·exact⟨j,Int.dvd_sub dx (Int.dvd_trans (hG c) dy),by omega⟩
 ·exact⟨k,Int.dvd_sub (Int.dvd_trans (hG c) dx) dy,by omega⟩
theorem tR {x y:Int} (hx:Fl x) (hy:Fl y) (h1:(x+y).natAbs<=x.natAbs) (h2:(x+y).natAbs<=y.natAbs):Fl (x+y):=by
 have e:x+y=x - -y:=by omega
 rw[e]
 exact oX hx hy.neg (by omega) (by omega)
theorem l4 {S h:Int} {k:Nat} (n:Nr S h) (d:(2^k:Int) ∣ S) (h0:0<=S):(2^k:Int) ∣ h:=by
 by_cases c:(S.natAbs:Int)<=9007199254740992*2^k
 ·rw[dI (lZ d c) n];exact d
 ·have hT:Fl (9007199254740992*2^k):=lZ ⟨9007199254740992,by rw[Int.mul_comm]⟩ (by have:=p2 k;omega)
  have h1:=n.2 _ hT
  obtain⟨j,dj,bj⟩:=n.1
  have hk:=p2 k
  have hj:=p2 j
  have:(2:Int)^k<2^j:=by omega
  exact Int.dvd_trans (hG (Nat.le_of_lt (vP this))) dj
theorem l5 {S h:Int} {k:Nat} (n:Nr S h) (d:(2^k:Int) ∣ S):(2^k:Int) ∣ h:=by
 rcases Int.le_total 0 S with c|c
 ·exact l4 n d c
 ·have:=l4 n.neg ((Int.dvd_neg).2 d) (by omega)
  exact(Int.dvd_neg).1 this
theorem qP {a b h:Int} (ha:Fl a) (hb:Fl b) (n:Nr (a+b) h):Fl (a+b-h):=by
 have e1:=n.2 a ha
 have e2:=n.2 b hb
 obtain⟨j,da,ba⟩:=ha
 obtain⟨k,db,bb⟩:=hb
 rcases Nat.le_total j k with c|c
 ·have d:=Int.dvd_add da (Int.dvd_trans (hG c) db)
  exact⟨j,Int.dvd_sub d (l5 n d),by omega⟩
 ·have d:=Int.dvd_add (Int.dvd_trans (hG c) da) db
  exact⟨k,Int.dvd_sub d (l5 n d),by omega⟩
theorem oY {a b h:Int} (ha:Fl a) (hb:Fl b) (h0:0<=a) (hab:b.natAbs<=a.natAbs) (n:Nr (a+b) h):Fl (h-a):=by
 have ea:=n.2 a ha
 have e2:=n.2 (2*a) ha.dbl
 have ez:=n.2 0 i9
 by_cases hs:a<=2*h
 ·exact oX n.1 ha (by omega) (by omega)
 ·have hS:Fl (a+b):=by
   obtain⟨k,⟨c,hc⟩,ba⟩:=ha
   cases k with
   | zero=>exact⟨0,⟨a+b,by simp⟩,by simp at ba ⊢;omega⟩
   | succ k=>
    have hf:Fl (2^k*c):=⟨k,⟨c,rfl⟩,by rw[iI] at ba hc;rw[Int.mul_assoc] at hc;omega⟩
    have e3:=n.2 _ hf
    rw[iI,Int.mul_assoc] at hc
    exact tR ⟨k+1,⟨c,by rw[iI,Int.mul_assoc];exact hc⟩,ba⟩ hb (by omega) (by omega)
  rw[dI hS n,show a+b-a=b by omega]
  exact hb
theorem oZ {a b h:Int} (ha:Fl a) (hb:Fl b) (hab:b.natAbs<=a.natAbs) (n:Nr (a+b) h):Fl (h-a):=by
 rcases Int.le_total 0 a with c|c
 ·exact oY ha hb c hab n
 ·have n2:=n.neg
  rw[show -(a+b)=-a + -b by omega] at n2
  have:=(oY ha.neg hb.neg (by omega) (by omega) n2).neg
  rwa [show -(-h - -a)=h-a by omega] at this
theorem o5 (S:Int) (h0:0<=S):∃ k:Nat,S<9007199254740992*2^k∧(k=0∨4503599627370496*2^k<=S):=by
 have ex:∀ n:Nat,S<9007199254740992*2^n->∃ k:Nat,S<9007199254740992*2^k∧(k=0∨4503599627370496*2^k<=S):=by
  intro n
  induction n with
  | zero=>intro h;exact⟨0,h,.inl rfl⟩
  | succ n ih=>
   intro h
   by_cases c:S<9007199254740992*2^n
   ·exact ih c
   ·exact⟨n+1,h,.inr (by rw[iI];omega)⟩
 refine ex S.natAbs ?_
 have h1:S.natAbs<2^S.natAbs:=Nat.lt_two_pow_self
 have h2:((2^S.natAbs:Nat):Int)=2^S.natAbs:=by simp
 have h3:=p2 S.natAbs
 omega
theorem l6 {S h:Int} (n:Nr S h) (h0:0<=S):1000*(h-S).natAbs<=S.natAbs:=by
 obtain⟨k,b,c⟩:=o5 S h0
 have hk:=p2 k
 have hm:=Int.emod_nonneg S (show(2:Int)^k≠0 by omega)
 have hl:=Int.emod_lt_of_pos S hk
 have hf:Fl (S-S % 2^k):=by
  refine lZ (k:=k) ⟨S/2^k,by have:=Int.emod_add_mul_ediv S (2^k);omega⟩ ?_
  have:0<=S-S % 2^k:=by
   have:=Int.emod_add_mul_ediv S (2^k)
   have h2:0<=2^k*(S/2^k):=Int.mul_nonneg (by omega) (Int.ediv_nonneg h0 (by omega))
   omega
  omega
 have e:=n.2 _ hf
 rcases c with c|c
 ·subst c
  have:S % 2^0=0:=by simp
  omega
 ·omega
theorem tS {S h:Int} (n:Nr S h):1000*(h-S).natAbs<=S.natAbs:=by
 rcases Int.le_total 0 S with c|c
 ·exact l6 n c
 ·have:=l6 n.neg (by omega)
  omega
theorem xO {a b h v u p q l:Int} (ha:Fl a) (hb:Fl b) (nh:Nr (a+b) h) (nv:Nr (h-a) v) (nu:Nr (h-v) u) (np:Nr (a-u) p) (nq:Nr (b-v) q) (nl:Nr (p+q) l):l=a+b-h:=by
 have hd:=qP ha hb nh
 -- the step oZ,where it is exact
 have A:Fl (h-a)->l=a+b-h:=by
  intro hx
  have e1:=dI hx nv
  subst e1
  rw[show h-(h-a)=a by omega] at nu
  have e2:=dI ha nu
  subst e2
  rw[show u-u=0 by omega] at np
  have e3:=dI i9 np
  subst e3
  rw[show b-(h-u)=u+b-h by omega] at nq
  have e4:=dI hd nq
  subst e4
  rw[show 0+(u+b-h)=u+b-h by omega] at nl
  exact dI hd nl
 by_cases hab:b.natAbs<=a.natAbs
 ·exact A (oZ ha hb hab nh)
 by_cases hha:a.natAbs<=h.natAbs
 ·-- h-v is exact
  have n1:Nr (h + -a) v:=by rw[show h + -a=h-a by omega];exact nv
  have hx:=(oZ nh.1 ha.neg (by omega) n1).neg
  rw[show -(v-h)=h-v by omega] at hx
  have e1:=dI hx nu
  subst e1
  have hy:=(qP nh.1 ha.neg n1).neg
  rw[show -(h + -a-v)=a-(h-v) by omega] at hy
  have e2:=dI hy np
  subst e2
  have r1:=tS nh
  have r2:=nv.2 b hb
  have hz:Fl (b-v):=oX hb nv.1 (by omega) (by omega)
  have e3:=dI hz nq
  subst e3
  rw[show a-(h-v)+(b-v)=a+b-h by omega] at nl
  exact dI hd nl
 ·-- then the sum is exact
  have e1:=nh.2 a ha
  have e2:=nh.2 (-a) ha.neg
  have hS:Fl (a+b):=tR ha hb (by omega) (by omega)
  have e3:=dI hS nh
  exact A (by rw[e3,show a+b-a=b by omega];exact hb)
theorem Aj {S h T:Int} (n:Nr S h) (hT:Fl T) (c:T<=S):T<=h:=by
 have:=n.2 T hT
 omega
theorem Ak (i:Nat) {m:Nat} (hm:(m:Int)<=9007199254740992):Fl ((m:Int)*2^i):=by
 refine lZ (k:=i) ⟨m,by rw[Int.mul_comm]⟩ ?_
 have h1:0<=(m:Int)*2^i:=Int.mul_nonneg (by omega) (Int.le_of_lt (p2 i))
 have h2:(m:Int)*2^i<=9007199254740992*2^i:=Int.mul_le_mul_of_nonneg_right hm (Int.le_of_lt (p2 i))
 omega
theorem vQ {h:Int} {i:Nat} (f:Fl h) (c:4503599627370496*2^i<=(h.natAbs:Int)):(2^i:Int) ∣ h:=by
 obtain⟨j,d,b⟩:=f
 have hi:=p2 i
 have hj:=p2 j
 cases i with
 | zero=>exact⟨h,by simp⟩
 | succ i=>
  rw[iI] at c
  have:(2:Int)^i<2^j:=by omega
  exact Int.dvd_trans (hG (vP this)) d
theorem tT (S:Int) (i:Nat):∃ T:Int,(2^i:Int) ∣ T∧2*(T-S).natAbs<=(2^i:Int):=by
 have hi:=p2 i
 have hm:=Int.emod_nonneg S (show(2:Int)^i≠0 by omega)
 have hl:=Int.emod_lt_of_pos S hi
 have e:=Int.emod_add_mul_ediv S (2^i)
 generalize S % 2^i=t at *
 by_cases c:2*t<=2^i
 ·exact⟨S-t,⟨S/2^i,by omega⟩,by omega⟩
 ·exact⟨S-t+2^i,⟨S/2^i+1,by rw[Int.mul_add,Int.mul_one];omega⟩,by omega⟩
theorem yV {S h:Int} {i:Nat} (n:Nr S h) (c:(S.natAbs:Int)<=9007199254740992*2^i):2*((h-S).natAbs:Int)<=2^i:=by
 obtain⟨T,d,e⟩:=tT S i
 have hi:=p2 i
 have hT:Fl T:=by
  by_cases c2:(T.natAbs:Int)<=9007199254740992*2^i
  ·exact lZ d c2
  ·exfalso
   obtain⟨t,rfl⟩:=d
   have h1:(9007199254740992:Int)<t.natAbs:=by
    rw[Int.natAbs_mul] at c2
    have e2:((2^i:Int).natAbs:Int)=2^i:=by omega
    push_cast at c2
    rcases Int.lt_or_le 9007199254740992 (t.natAbs:Int) with g|g
    ·exact g
    ·exfalso
     have:=Int.mul_le_mul_of_nonneg_left g (Int.le_of_lt hi)
     rw[e2] at c2
     omega
   have h2:(2^i:Int)*9007199254740993<=((2^i*t).natAbs:Int):=by
    rw[Int.natAbs_mul]
    have e2:((2^i:Int).natAbs:Int)=2^i:=by omega
    rw[Int.natCast_mul,e2]
    exact Int.mul_le_mul_of_nonneg_left (by omega) (Int.le_of_lt hi)
   generalize 2^i*t=T at *
   omega
 have:=n.2 T hT
 omega
structure yW (a h:Int) (j:Nat):Prop where
 up:(134217728*2^j:Int) ∣ h
 lo:(2^j:Int) ∣ a-h
 top:(h.natAbs:Int)<=9007199254740992*2^j
 low:((a-h).natAbs:Int)<=67108864*2^j
theorem yW.neg {a h:Int} {j:Nat} (s:yW a h j):yW (-a) (-h) j :=
 ⟨(Int.dvd_neg).2 s.up,by rw[show -a - -h=-(a-h) by omega];exact(Int.dvd_neg).2 s.lo,by rw[Int.natAbs_neg];exact s.top,by rw[show -a - -h=-(a-h) by omega,Int.natAbs_neg];exact s.low⟩
theorem iJ (i:Nat) (t:Int):((2^i*t).natAbs:Int)=2^i*(t.natAbs:Int):=by
 have hi:=p2 i
 rw[Int.natAbs_mul,Int.natCast_mul,show((2^i:Int).natAbs:Int)=2^i by omega]
theorem Fl.down {i:Nat} {t:Int} (h:Fl (2^i*t)):Fl t:=by
 obtain⟨k,d,b⟩:=h
 rw[iJ] at b
 rcases Nat.le_total i k with c|c
 ·obtain⟨e,rfl⟩:∃ e,k=i+e:=⟨k-i,by omega⟩
  rw[Int.pow_add] at d b
  refine⟨e,Int.dvd_of_mul_dvd_mul_left (by have:=p2 i;omega) d,?_⟩
  have e2:(9007199254740992:Int)*(2^i*2^e)=2^i*(9007199254740992*2^e):=by rw[<- Int.mul_assoc,<- Int.mul_assoc,Int.mul_comm _ (2^i)]
  rw[e2] at b
  exact Int.lt_of_mul_lt_mul_left b (Int.le_of_lt (p2 i))
 ·refine⟨0,⟨t,by simp⟩,?_⟩
  have h1:(9007199254740992:Int)*2^k<=2^i*9007199254740992:=by rw[Int.mul_comm];exact Int.mul_le_mul_of_nonneg_right (kw c) (by decide)
  have h2:=Int.lt_of_mul_lt_mul_left (Int.lt_of_lt_of_le b h1) (Int.le_of_lt (p2 i))
  simpa using h2
theorem Fl.up {t:Int} (h:Fl t) (i:Nat):Fl (2^i*t):=by
 obtain⟨k,⟨c,rfl⟩,b⟩:=h
 refine⟨i+k,⟨c,by rw[Int.pow_add,Int.mul_assoc]⟩,?_⟩
 rw[iJ,Int.pow_add]
 have e2:(9007199254740992:Int)*(2^i*2^k)=2^i*(9007199254740992*2^k):=by rw[<- Int.mul_assoc,<- Int.mul_assoc,Int.mul_comm _ (2^i)]
 rw[e2]
 exact Int.mul_lt_mul_of_pos_left b (p2 i)
theorem rT {x y:Int} {X Y:Int} (hx:(x.natAbs:Int)<=X) (hy:(y.natAbs:Int)<=Y):((x*y).natAbs:Int)<=X*Y:=by
 rw[Int.natAbs_mul,Int.natCast_mul]
 exact Int.mul_le_mul hx hy (by omega) (by omega)
end Go.Proofs.YtcklaogdjpbagaaGreatDoor.M
namespace Go.Proofs.YtcklaogdjpbagaaGreatDoor
open Go Go.Proofs.Tryz Go.RowKit Go.Proofs.YtcklaogdjpbagaaGreatDoor.M Ieee
def iV (p:Int):Int:=sg (decide (p<0)) (V Ieee.double (rg p).toNat:Int)
theorem cr {p:Int} (hp:ar p) (h:ay p=true):au p=iV p*pw (-1074):=by
 rw[lz hp h];unfold iV vS;rw[mG]
theorem mI (n k:Nat):((n*2^k:Nat):Int)=2^k*(n:Int):=by rw[Int.natCast_mul,Int.mul_comm];simp
theorem yX {S q:Int} (hq:0<q) (h:S≠0):S*q≠0:=fun c=>by
 rcases Int.mul_eq_zero.1 c with d|d<;>omega
theorem Al {S q:Int} (hq:0<q):decide (S*q<0)=decide (S<0):=by
 congr 1
 exact propext (lc hq).symm
theorem Am {S q A:Int} (hq:0<q) (h:S*q=sg (decide (S<0)) A):A=(S.natAbs:Int)*q:=by
 have:=nH (t:=S) hq
 rw[this] at h
 exact(kv h).symm
theorem yY {S h:Int} (n:Nr (S.natAbs:Int) h):Nr S (sg (decide (S<0)) h):=by
 by_cases c:S<0
 ·rw[decide_eq_true c]
  have n2:=n.neg
  have e:-(S.natAbs:Int)=S:=by omega
  rw[e] at n2
  exact n2
 ·rw[decide_eq_false c]
  have e:(S.natAbs:Int)=S:=by omega
  rw[e] at n
  exact n
theorem rV (r:Nat):Fl (V Ieee.double r:Int):=by
 unfold V
 rw[kt]
 by_cases h:r<4503599627370496
 ·rw[if_pos h]
  exact⟨0,⟨r,by simp⟩,by simp;omega⟩
 ·rw[if_neg h]
  have hm:=Nat.mod_lt r (show 0<4503599627370496 by decide)
  obtain⟨n,hn⟩:∃ n,4503599627370496+r % 4503599627370496=n:=⟨_,rfl⟩
  rw[hn]
  refine⟨r/4503599627370496-1,⟨n,mI _ _⟩,?_⟩
  rw[Int.natAbs_natCast,mI,Int.mul_comm]
  exact Int.mul_lt_mul_of_pos_right (by omega) (p2 _)
theorem AY {f:Int} (h:Fl f):∃ r:Nat,(f.natAbs:Int)=(V Ieee.double r:Int):=by
 obtain⟨k,b,c⟩:=o5 (f.natAbs:Int) (by omega)
 rcases Nat.eq_zero_or_pos k with g|g
 ·subst g
  have:=fI Ieee.double 0 f.natAbs (.inl ⟨rfl,by rw[kt];simp at b;omega⟩)
  exact⟨_,by rw[this];simp⟩
 ·have c2:4503599627370496*2^k<=(f.natAbs:Int):=by
   rcases c with c|c
   ·omega
   ·exact c
  obtain⟨t,ht⟩:=vQ h c2
  have e:(f.natAbs:Int)=2^k*(t.natAbs:Int):=by rw[ht,iJ]
  rw[e] at b c2
  have hk:=p2 k
  have b2:(t.natAbs:Int)<9007199254740992:=Int.lt_of_mul_lt_mul_left (by rw[Int.mul_comm (2^k) 9007199254740992];exact b) (Int.le_of_lt hk)
  have c3:4503599627370496<=(t.natAbs:Int):=Int.le_of_mul_le_mul_left (by rw[Int.mul_comm (2^k) 4503599627370496];exact c2) hk
  have:=fI Ieee.double k t.natAbs (.inr ⟨by rw[kt];omega,by rw[kt];omega⟩)
  exact⟨_,by rw[this,e];push_cast;rw[Int.mul_comm]⟩
theorem vR {r s:Nat} (h:r<=s):(V Ieee.double r:Int)<=V Ieee.double s:=by
 rcases Nat.lt_or_eq_of_le h with g|g
 ·have:=gO Ieee.double g;omega
 ·rw[g];omega
theorem AZ {S:Int} {ng:Bool} {r0:Nat} {left:Int} (h0:0<=S) (hR:eg (S*pw (-1074)) r0 left) (hf:bL 0 ng r0 left<9218868437227405312):Nr S (V Ieee.double (bL 0 ng r0 left).toNat:Int):=by
 obtain⟨lo,hi,l0,l1,l2,l3⟩:=hR
 have hq:=bX (-1074)
 unfold vS at *
 generalize pw (-1074)=q at *
 have g1:(V Ieee.double r0:Int)<=S:=Int.le_of_mul_le_mul_right lo hq
 have g2:S<(V Ieee.double (r0+1):Int):=Int.lt_of_mul_lt_mul_right hi (Int.le_of_lt hq)
 have g3:left=2->2*S=(V Ieee.double r0:Int)+V Ieee.double (r0+1):=fun c=>by
  have:=l2.1 c
  rw[<- Int.add_mul,<- Int.mul_assoc] at this
  exact Int.eq_of_mul_eq_mul_right (by omega) this
 have g4:left=3->(V Ieee.double r0:Int)+V Ieee.double (r0+1)<2*S:=fun c=>by
  have:=l3.1 c
  rw[<- Int.add_mul,<- Int.mul_assoc] at this
  exact Int.lt_of_mul_lt_mul_right this (Int.le_of_lt hq)
 have g5:left≠3->2*S<=(V Ieee.double r0:Int)+V Ieee.double (r0+1):=fun c=>by
  rcases Int.lt_or_le ((V Ieee.double r0:Int)+V Ieee.double (r0+1)) (2*S) with d|d
  ·have:=Int.mul_lt_mul_of_pos_right d hq
   rw[Int.add_mul,Int.mul_assoc] at this
   exact absurd (l3.2 this) c
  ·exact d
 clear l0 l1 l2 l3 lo hi
 have far:∀ f:Int,Fl f->f<=V Ieee.double r0∨V Ieee.double (r0+1)<=f:=by
  intro f hf
  obtain⟨s,hs⟩:=AY hf
  rcases Nat.lt_or_ge r0 s with c|c
  ·have:=vR (show r0+1<=s from c)
   have:=vR (show 0<=r0 by omega)
   omega
  ·have:=vR c
   omega
 unfold bL at hf ⊢
 by_cases hr:(r0:Int)<9218868437227405312
 ·rw[if_pos hr] at hf ⊢
  cases hu:cu 0 ng (decide (r0 % 2=1)) left
  ·rw[if_neg (by decide)]
   have e:((r0:Int)+0).toNat=r0:=by omega
   rw[e]
   have hl:left≠3:=fun c=>by
    subst c
    unfold cu at hu
    simp at hu
   refine⟨rV r0,fun f hf=>?_⟩
   have:=far f hf
   have:=g5 hl
   omega
  ·rw[if_pos rfl]
   have e:((r0:Int)+1).toNat=r0+1:=by omega
   rw[e]
   have hl:left=3∨left=2:=by
    unfold cu at hu
    simp at hu
    rcases hu with c|c
    ·exact .inl c
    ·exact .inr c.1
   refine⟨rV (r0+1),fun f hf=>?_⟩
   have:=far f hf
   rcases hl with c|c
   ·have:=g4 c;omega
   ·have:=g3 c;omega
 ·rw[if_neg hr] at hf
  unfold fD cu at hf
  simp at hf
def jM:Int:=(V Ieee.double 9218868437227405311:Int)
theorem Ao {S:Int} {ng:Bool} {r0:Nat} {left:Int} (h0:S<=jM) (hR:eg (S*pw (-1074)) r0 left):bL 0 ng r0 left<9218868437227405312:=by
 obtain⟨lo,hi,l0,l1,l2,l3⟩:=hR
 have hq:=bX (-1074)
 unfold vS at *
 generalize pw (-1074)=q at *
 have g1:(V Ieee.double r0:Int)<=S:=Int.le_of_mul_le_mul_right lo hq
 have hr:r0<=9218868437227405311:=by
  rcases Nat.lt_or_ge 9218868437227405311 r0 with c|c
  ·have:=gO Ieee.double c
   unfold jM at h0
   omega
  ·exact c
 unfold bL
 rw[if_pos (by omega)]
 by_cases c:r0=9218868437227405311
 ·have e:S=(V Ieee.double r0:Int):=by rw[c] at g1 ⊢;unfold jM at h0;omega
  have:left=0:=l0.2 (by rw[e])
  subst this
  rw[if_neg (fun c=>gA c)]
  omega
 ·split<;>omega
theorem eC {ng:Bool} {r:Int} (h0:0<=r) (h1:r<=9218868437227405312):ar (aC ng r)∧rg (aC ng r)=r∧decide (aC ng r<0)=ng:=by
 unfold aC ar rg
 cases ng
 ·simp only[Bool.false_eq_true,if_false]
  rw[if_neg (by omega)]
  exact⟨by omega,rfl,decide_eq_false (by omega)⟩
 ·simp only[if_true]
  rw[if_pos (by omega)]
  exact⟨by omega,by omega,decide_eq_true (by omega)⟩
theorem jN {ng:Bool} {r:Int} (h0:0<=r) (h1:r<=9218868437227405312):ay (aC ng r)=decide (r<9218868437227405312):=by
 obtain⟨a,b,_⟩:=eC (ng:=ng) h0 h1
 have:=dr a
 rw[b] at this
 cases h:ay (aC ng r)
 ·refine(decide_eq_false fun c=>?_).symm
  rw[this.2 c] at h;cases h
 ·exact(decide_eq_true (this.1 h)).symm
theorem ja {ng:Bool} {r:Int} (h0:0<=r) (h1:r<=9218868437227405312):iV (aC ng r)=sg ng (V Ieee.double r.toNat:Int):=by
 obtain⟨_,b,c⟩:=eC (ng:=ng) h0 h1
 unfold iV
 rw[b,c]
theorem xP:Nr 0 0:=⟨i9,fun f _=>by omega⟩
theorem xQ {S:Int} (h:S≠0):ar (cT (S*pw (-1074)))∧(ay (cT (S*pw (-1074)))=true->Nr S (iV (cT (S*pw (-1074)))))∧((S.natAbs:Int)<=jM->ay (cT (S*pw (-1074)))=true):=by
 have hq:=bX (-1074)
 obtain⟨A,r0,left,e1,hR,e2⟩:=fm (yX hq h)
 rw[Al hq] at e1 e2
 have hA:=Am hq e1
 rw[hA] at hR
 have hrr:=dW 0 (decide (S<0)) r0 left
 rw[e2]
 refine⟨(eC hrr.1 hrr.2).1,fun hp=>?_,fun hb=>?_⟩
 ·rw[jN hrr.1 hrr.2] at hp
  have n:=AZ (ng:=decide (S<0)) (Int.natCast_nonneg _) hR (of_decide_eq_true hp)
  rw[ja hrr.1 hrr.2]
  exact yY n
 ·rw[jN hrr.1 hrr.2]
  exact decide_eq_true (Ao hb hR)
theorem jb:ar 9221120237041090561:=by unfold ar;decide
theorem l7:ay 9221120237041090561=false:=by decide
theorem kx {p:Int} (hp:ar p) (h4:¬ aF p=4) (hi:¬ rg p=9218868437227405312):ay p=true:=by
 have:=(dp hp).1
 rw[dr hp]
 have:¬ 9218868437227405312<rg p:=fun c=>h4 (this.2 c)
 omega
theorem tU {p:Int} (hp:ar p) (hi:rg p=9218868437227405312):¬ ay p=true:=fun h=>by
 have:=(dr hp).1 h
 omega
theorem eh {p:Int} (hp:ar p) (h:ay p=true):¬ aF p=4∧¬ rg p=9218868437227405312:=by
 have h1:=(dr hp).1 h
 exact⟨fun c=>by have:=(dp hp).1.1 c;omega,by omega⟩
theorem nI {p q:Int} (hp:ar p) (hq:ar q) (h:ay (az p q)=true):ay p=true∧ay q=true:=by
 unfold az at h
 by_cases c4:aF p=4∨aF q=4
 ·rw[if_pos c4,l7] at h;cases h
 rw[if_neg c4] at h
 by_cases ci:rg p=9218868437227405312
 ·rw[if_pos ci] at h
  by_cases cj:rg q=9218868437227405312∧decide (p<0)≠decide (q<0)
  ·rw[if_pos cj,l7] at h;cases h
  ·rw[if_neg cj] at h;exact absurd h (tU hp ci)
 rw[if_neg ci] at h
 by_cases cj:rg q=9218868437227405312
 ·rw[if_pos cj] at h;exact absurd h (tU hq cj)
 exact⟨kx hp (fun c=>c4 (.inl c)) ci,kx hq (fun c=>c4 (.inr c)) cj⟩
theorem eD (g:Bool):ar (aC g 0)∧ay (aC g 0)=true∧iV (aC g 0)=0:=by
 refine⟨(eC (by decide) (by decide)).1,?_,?_⟩
 ·rw[jN (by decide) (by decide)];decide
 ·rw[ja (by decide) (by decide)]
  show sg g (V Ieee.double 0:Int)=0
  rw[ka]
  exact dG g
structure o6 (S p:Int):Prop where
 rn:ar p
 nr:ay p=true->Nr S (iV p)
 fin:(S.natAbs:Int)<=jM->ay p=true
theorem o7 (g:Bool):o6 0 (aC g 0):=by
 obtain⟨a,b,c⟩:=eD g
 exact⟨a,fun _=>by rw[c];exact xP,fun _=>b⟩
theorem o8 {S:Int} (h:S≠0):o6 S (cT (S*pw (-1074))):=by
 obtain⟨a,b,c⟩:=xQ h
 exact⟨a,b,c⟩
theorem yZ {a b T u Z k w:Int} (hz:0<Z) (e2:w*w=u*Z) (e3:w=u*k) (hT:k*T=a*b):a*w*(b*w)/Z=T*w:=by
 have e1:a*w*(b*w)=a*b*(w*w):=by
  rw[Int.mul_assoc,Int.mul_assoc];congr 1;rw[<- Int.mul_assoc,<- Int.mul_assoc,Int.mul_comm w b]
 rw[e1,e2,<- hT]
 have:k*T*(u*Z)=T*w*Z:=by
  rw[e3,Int.mul_comm k T,Int.mul_assoc,Int.mul_assoc,<- Int.mul_assoc k u Z,Int.mul_comm k u]
 rw[this]
 exact Int.mul_ediv_cancel _ (by omega)
theorem tV {T w:Int} (g:Bool) (hw:0<w) (d:sg g (T*w)=0):T=0:=by
 have:=gX d
 rcases Int.mul_eq_zero.1 this with g|g<;>omega
theorem xR {T w:Int} (hw:0<w) (d:T*w=0):T=0:=by
 rcases Int.mul_eq_zero.1 d with g|g<;>omega
theorem wE {T w:Int} (g:Bool) (h:T=0):sg g (T*w)=0:=by rw[h,Int.zero_mul];exact dG g
theorem tW (g:Bool) (A:Int):sg g (sg g A)=A:=by cases g<;>simp[sg]
theorem gB {p q:Int} (hp:ar p) (hq:ar q) (pp:ay p=true) (pq:ay q=true):o6 (iV p+iV q) (az p q):=by
 obtain⟨a1,a2⟩:=eh hp pp
 obtain⟨b1,b2⟩:=eh hq pq
 have e:az p q=if iV p+iV q=0 then aC (decide (p<0)&&decide (q<0)) 0 else cT ((iV p+iV q)*pw (-1074)):=by
  unfold az
  rw[if_neg (fun c=>c.elim a1 b1),if_neg a2,if_neg b2,cr hp pp,cr hq pq,<- Int.add_mul]
  have hq:=bX (-1074)
  by_cases c:iV p+iV q=0
  ·rw[if_pos c,if_pos (by rw[c,Int.zero_mul])]
  ·rw[if_neg c,if_neg (fun d=>c (xR hq d))]
 rw[e]
 by_cases c:iV p+iV q=0
 ·rw[if_pos c,c];exact o7 _
 ·rw[if_neg c];exact o8 c
theorem vT {p q T:Int} (hp:ar p) (hq:ar q) (pp:ay p=true) (pq:ay q=true) (hT:2^1074*T=iV p*iV q):o6 T (aw p q):=by
 obtain⟨a1,a2⟩:=eh hp pp
 obtain⟨b1,b2⟩:=eh hq pq
 have hw:=bX (-1074)
 have hs:au p*au q/2^4194304=T*pw (-1074):=by
  rw[cr hp pp,cr hq pq]
  have e2:=j8 (a:=-1074) (b:=-1074) (by decide) (by decide)
  rw[show(-1074 + -1074:Int)=-2148 by decide] at e2
  have e3:=ec (e:=-2148) (by decide) 1074
  rw[show(-2148+((1074:Nat):Int))=-1074 by decide] at e3
  exact yZ (aB 4194304) e2 e3 hT
 have e:aw p q=if T=0 then aC (gh p q) 0 else cT (T*pw (-1074)):=by
  unfold aw ft
  rw[if_neg (fun c=>c.elim a1 b1),if_neg (fun c=>c.elim a2 b2),hs]
  by_cases c:T=0
  ·rw[if_pos c,if_pos (wE _ c)]
  ·rw[if_neg c,if_neg (fun d=>c (tV _ hw d)),tW]
 rw[e]
 by_cases c:T=0
 ·rw[if_pos c,c];exact o7 _
 ·rw[if_neg c];exact o8 c
theorem fM {q:Int} (hq:ar q) (h:ay q=true):ar (neg q)∧ay (neg q)=true∧iV (neg q)=-iV q:=by
 obtain⟨b1,b2⟩:=eh hq h
 have h1:=(dr hq).1 h
 have e:neg q=aC (!decide (q<0)) (rg q):=by
  unfold neg aC rg
  rw[if_neg b1]
  by_cases c:q<0
  ·rw[if_pos c,if_pos c,decide_eq_true c];rfl
  ·rw[if_neg c,if_neg c,decide_eq_false c];rfl
 have h0:0<=rg q:=by unfold rg;unfold ar at hq;split<;>omega
 obtain⟨c1,c2,c3⟩:=eC (ng:=!decide (q<0)) h0 (by omega)
 refine⟨by rw[e];exact c1,by rw[e,jN h0 (by omega)];exact decide_eq_true h1,?_⟩
 rw[e,ja h0 (by omega)]
 unfold iV
 rw[oi]
theorem xS {q:Int} (hq:ar q) (h:ay (neg q)=true):ay q=true:=by
 unfold neg at h
 by_cases c:aF q=4
 ·rw[if_pos c,l7] at h;cases h
 ·by_cases ci:rg q=9218868437227405312
  ·exfalso
   rw[if_neg c] at h
   have hr:ar (if q<0 then q+9223372036854775808 else q-9223372036854775808):=by unfold ar at *;split<;>omega
   have:=(dr hr).1 h
   unfold rg at this ci
   split at this<;>split at ci<;>split at this<;>omega
  ·exact kx hq c ci
theorem dJ {q:Int} (hq:ar q):ar (neg q):=by
 unfold neg ar at *
 split
 ·omega
 ·split<;>omega
theorem eY {p q:Int} (hp:ar p) (hq:ar q) (pp:ay p=true) (pq:ay q=true):o6 (iV p-iV q) (az p (neg q)):=by
 obtain⟨a,b,c⟩:=fM hq pq
 have:=gB hp a pp b
 rw[c] at this
 exact this
theorem jO {p q:Int} (hp:ar p) (hq:ar q) (h:ay (az p (neg q))=true):ay p=true∧ay q=true:=by
 obtain⟨a,b⟩:=nI hp (dJ hq) h
 exact⟨a,xS hq b⟩
theorem bU {p q:Int} (hp:ar p) (hq:ar q):ar (az p q):=by
 by_cases h:ay p=true∧ay q=true
 ·exact(gB hp hq h.1 h.2).rn
 ·unfold az
  by_cases c4:aF p=4∨aF q=4
  ·rw[if_pos c4];exact jb
  rw[if_neg c4]
  by_cases ci:rg p=9218868437227405312
  ·rw[if_pos ci];split
   ·exact jb
   ·exact hp
  rw[if_neg ci]
  by_cases cj:rg q=9218868437227405312
  ·rw[if_pos cj];exact hq
  exact absurd ⟨kx hp (fun c=>c4 (.inl c)) ci,kx hq (fun c=>c4 (.inr c)) cj⟩ h
theorem bf {p q:Int} (hp:ar p) (hq:ar q):ar (aw p q):=by
 unfold aw
 split
 ·exact jb
 ·split
  ·split
   ·exact jb
   ·exact(eC (by decide) (by decide)).1
  ·split
   ·exact(eC (by decide) (by decide)).1
   ·rename_i h
    exact(fK (fun c=>h (gX c))).1
def sV (p q:Int):Int:=az (az p q) (neg p)
def sL (p q:Int):Int:=az (az p (neg (az (az p q) (neg (sV p q))))) (az q (neg (sV p q)))
def fL (p q:Int):Int:=az q (neg (az (az p q) (neg p)))
def cC (p:Int):Int:=aw 4728779608772575232 p
def tX (p:Int):Int:=az (cC p) (neg (az (cC p) (neg p)))
def wF (p:Int):Int:=az p (neg (tX p))
def Bj (a b:Int):Int:=az (aw a b) (neg (aw (tX a) (tX b)))
def Bk (a b:Int):Int:=az (Bj a b) (neg (aw (wF a) (tX b)))
def Bl (a b:Int):Int:=az (Bk a b) (neg (aw (tX a) (wF b)))
def o9 (a b:Int):Int:=az (aw (wF a) (wF b)) (neg (Bl a b))
theorem kQ (p:Int):Fl (iV p):=by
 unfold iV
 cases decide (p<0)
 ·exact rV _
 ·exact(rV _).neg
theorem jc (p:Int):((iV p).natAbs:Int)=(V Ieee.double (rg p).toNat:Int):=by
 unfold iV sg
 cases decide (p<0)
 ·simp
 ·simp
theorem vU {p q:Int} (hp:ar p) (hq:ar q) (h:ay (sL p q)=true):(ay p=true∧ay q=true)∧ay (az p q)=true∧iV (az p q)+iV (sL p q)=iV p+iV q:=by
 have rh:=bU hp hq
 have rv:ar (sV p q):=bU rh (dJ hp)
 have rU:=bU rh (dJ rv)
 have rX:=bU hp (dJ rU)
 have rY:=bU hq (dJ rv)
 obtain⟨pX,pY⟩:=nI rX rY h
 obtain⟨pp,pU⟩:=jO hp rU pX
 obtain⟨pq,pv⟩:=jO hq rv pY
 obtain⟨ph,_⟩:=jO rh hp pv
 have e:=xO (kQ p) (kQ q) ((gB hp hq pp pq).nr ph) ((eY rh hp ph pp).nr pv) ((eY rh rv ph pv).nr pU) ((eY hp rU pp pU).nr pX) ((eY hq rv pq pv).nr pY) ((gB rX rY pX pY).nr h)
 exact⟨⟨pp,pq⟩,ph,by unfold sL;omega⟩
theorem gC {p q:Int} (hp:ar p) (hq:ar q) (pp:ay p=true) (pq:ay q=true):az p q=if au p+au q=0 then aC (decide (p<0)&&decide (q<0)) 0 else cT (au p+au q):=by
 obtain⟨a1,a2⟩:=eh hp pp
 obtain⟨b1,b2⟩:=eh hq pq
 unfold az
 rw[if_neg (fun c=>c.elim a1 b1),if_neg a2,if_neg b2]
theorem nJ {p q:Int} (hp:ar p) (hq:ar q) (pp:ay p=true) (pq:ay q=true):az p q=az q p:=by
 rw[gC hp hq pp pq,gC hq hp pq pp,Int.add_comm (au q),Bool.and_comm (decide (q<0))]
def fX (p q:Int):Bool:=ay (fL p q)&&(!decide ((iV p).natAbs<(iV q).natAbs)||decide (iV (fL p q)=iV (fL q p)))
end Go.Proofs.YtcklaogdjpbagaaGreatDoor
/-
 Mathematics of whole numbers: a float's whole units,ints as floats,the order of floats in the model.
-/
namespace Go.Proofs.YtcklaogdjpbagaaGreatDoor.M
open Go Go.Proofs.Tryz Ieee
theorem tY {A q:Int} {u v:Nat} {l k:Int} (h:fV A u q l) (g:fV A v q k):¬ u<v:=fun c=>by
 have h1:=h.hi
 have h2:=g.lo
 have hq:0<q:=by have:=h.lo;omega
 have h3:((u:Int)+1)*q<=(v:Int)*q:=Int.mul_le_mul_of_nonneg_right (by omega) (by omega)
 rw[Int.add_mul,Int.one_mul] at h3
 omega
theorem fV.unique {A q:Int} {u v:Nat} {l k:Int} (h:fV A u q l) (g:fV A v q k):u=v∧l=k:=by
 have e:u=v:=by
  have h1:=tY h g
  have h2:=tY g h
  omega
 subst e
 refine⟨rfl,?_⟩
 have lo:=h.lo
 have hi:=h.hi
 obtain⟨T,hT⟩:∃ T,(u:Int)*q=T:=⟨_,rfl⟩
 rw[hT] at lo hi
 have a0:=h.l0
 have a1:=h.l1
 have a2:=h.l2
 have a3:=h.l3
 have b0:=g.l0
 have b1:=g.l1
 have b2:=g.l2
 have b3:=g.l3
 rw[hT] at a0 a1 a2 a3 b0 b1 b2 b3
 by_cases c0:A=T
 ·rw[a0.2 c0,b0.2 c0]
 ·by_cases c1:2*A<2*T+q
  ·rw[a1.2 ⟨by omega,c1⟩,b1.2 ⟨by omega,c1⟩]
  ·by_cases c2:2*A=2*T+q
   ·rw[a2.2 c2,b2.2 c2]
   ·rw[a3.2 (by omega),b3.2 (by omega)]
end Go.Proofs.YtcklaogdjpbagaaGreatDoor.M
namespace Go.Proofs.YtcklaogdjpbagaaGreatDoor
open Go Go.Proofs.Tryz Go.RowKit Go.Proofs.YtcklaogdjpbagaaGreatDoor.M Ieee
end Go.Proofs.YtcklaogdjpbagaaGreatDoor
namespace Go.Proofs.YtcklaogdjpbagaaGreatDoor
open Go Go.Proofs.Tryz Go.RowKit Go.Proofs.YtcklaogdjpbagaaGreatDoor.M Ieee
theorem FW.rng {p:Int} {x:Nat} (h:FW p x):M.ar p:=by
 rcases h with⟨_,h,_⟩|⟨rfl,_⟩
 ·exact h
 ·exact jb
theorem vV {p:Int} (hp:M.ar p) (h4:¬ aF p=4):decide (M.neg p<0)=!decide (p<0)∧rg (M.neg p)=rg p∧¬ aF (M.neg p)=4:=by
 have h0:0<=rg p∧rg p<9223372036854775808:=by unfold rg;unfold M.ar at hp;split<;>omega
 have e:rg (M.neg p)=rg p∧decide (M.neg p<0)=!decide (p<0):=by
  unfold M.neg rg
  rw[if_neg h4]
  unfold M.ar at hp
  by_cases c:p<0
  ·rw[if_pos c,decide_eq_true c,if_neg (by omega)]
   exact⟨by rw[if_pos c],decide_eq_false (by omega)⟩
  ·rw[if_neg c,decide_eq_false c,if_pos (by omega)]
   exact⟨by rw[if_neg c];omega,decide_eq_true (by omega)⟩
 refine⟨e.2,e.1,fun c=>?_⟩
 have:=(dp (dJ hp)).1.1 c
 rw[e.1] at this
 exact h4 ((dp hp).1.2 this)
end Go.Proofs.YtcklaogdjpbagaaGreatDoor
/-
 Package eft: math.Abs,FastTwoSum,reachable,TwoProd,by their contracts.
-/
namespace Go.Proofs.YtcklaogdjpbagaaGreatDoor
open Go Go.Proofs.Tryz Go.RowKit Go.Proofs.YtcklaogdjpbagaaGreatDoor.M Ieee
theorem FW.fin {p:Int} {x:Nat} (h:FW p x) (g:ay p=true):x=wd p:=by
 rcases h with⟨_,_,h⟩|⟨rfl,_⟩
 ·exact h
 ·rw[l7] at g;cases g
end Go.Proofs.YtcklaogdjpbagaaGreatDoor
namespace Go.Proofs.YtcklaogdjpbagaaGreatDoor
open Go Go.Proofs.Tryz Go.RowKit Go.Proofs.YtcklaogdjpbagaaGreatDoor.M Ieee
def wG (a b:Int):Bool:=decide (bl a=0)||decide (bl b=0)||decide (-1074<=bs a+jz (bl a)+bs b+jz (bl b))
end Go.Proofs.YtcklaogdjpbagaaGreatDoor
