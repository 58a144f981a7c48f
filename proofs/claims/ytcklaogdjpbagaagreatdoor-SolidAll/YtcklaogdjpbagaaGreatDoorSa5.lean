/- Parts of the proof. -/
import Derived.Test.YtcklaogdjpbagaaGreatDoorSa4
import Derived.Laws.FloatArith
import Derived.Test.YtcklaogdjpbagaaGreatDoorSa3
import Derived.Test.YtcklaogdjpbagaaGreatDoorSa2
import Derived.Test.YtcklaogdjpbagaaGreatDoorSa1
import Derived.Deep.RegionHeld3
import Derived.ArgAppend
import Derived.Lib.AppendZerosOnto
set_option maxRecDepth 100000
set_option maxHeartbeats 8000000
set_option linter.unusedVariables false
set_option linter.unusedSimpArgs false
namespace Go.Proofs.YtcklaogdjpbagaaGreatDoor
open Go Go.Proofs.Tryz Go.RowKit Go.Proofs.YtcklaogdjpbagaaGreatDoor.M Ieee
theorem wj {g h:Bool} {x y p q r Z:Int} (e:p*q=r*Z):sg (g != h) (x*y*r)*Z=sg g (x*p)*sg h (y*q):=by
 rw[vi,ol]
 congr 1
 rw[Int.mul_assoc (x*y),<- e,Int.mul_assoc x y,Int.mul_assoc x p]
 congr 1
 rw[<- Int.mul_assoc,<- Int.mul_assoc,Int.mul_comm y p]
theorem wk (g h:Bool):(g ^^ h)=(g != h):=by cases g<;>cases h<;>rfl
theorem DB {a b:Int} (ha:ax a) (hb:ax b) (pa:aF a=true) (pb:aF b=true) :
  ∃ D:Int,0<=D∧sg (decide (a<0) != decide (b<0)) D*2^4194304=am a*am b ∧
   (D=0->Ieee.double.mul (wd a) (wd b)=some (wd (aP (decide (a<0) != decide (b<0)) 0))) ∧
   (D≠0->∃ (r0:Nat) (left:Int),ei D r0 left∧Ieee.double.mul (wd a) (wd b)=some (wd (aP (decide (a<0) != decide (b<0)) (bT 0 (decide (a<0) != decide (b<0)) r0 left)))):=by
 obtain⟨m,u,h1,v1⟩:=gx ha pa
 obtain⟨n,v,h2,v2⟩:=gx hb pb
 have hmul:Ieee.double.mul (wd a) (wd b)=some (Ieee.double.nearest (decide (a<0) != decide (b<0)) (m*n) (-1074+(u:Int)+(-1074+(v:Int)))):=by
  unfold Format.mul
  rw[h1,h2]
  unfold Datum.product
  dsimp only
  rw[wk]
  rfl
 have hpm:=jO (a:=-1074+(u:Int)) (b:=-1074+(v:Int)) (by omega) (by omega)
 have hB:-4194304 <= -1074+(u:Int)+(-1074+(v:Int)):=by omega
 have hq:=ct (-1074+(u:Int)+(-1074+(v:Int)))
 have hC:=wj (g:=decide (a<0)) (h:=decide (b<0)) (x:=(m:Int)) (y:=(n:Int)) hpm
 rw[<- v1,<- v2] at hC
 generalize -1074+(u:Int)+(-1074+(v:Int))=base at *
 have hcast:((m*n:Nat):Int)=(m:Int)*(n:Int):=by push_cast;rfl
 refine⟨(m:Int)*(n:Int)*pw base,Int.mul_nonneg (by rw[<- hcast];omega) (Int.le_of_lt hq),hC,fun h=>?_,fun h=>?_⟩
 ·have h0:m*n=0:=by
   rcases Int.mul_eq_zero.1 h with g|g
   ·rw[<- hcast] at g;omega
   ·omega
  rw[hmul,h0]
  unfold Format.nearest
  rw[if_pos rfl]
  have:=iP (ng:=decide (a<0) != decide (b<0)) (r:=0) (by decide) (by decide)
  rw[<- this]
  rfl
 ·have h0:m*n≠0:=fun e=>h (by rw[<- hcast,e];simp)
  obtain⟨r0,left,hR,hE⟩:=ly (decide (a<0) != decide (b<0)) (place:=base) h0 hB
  rw[hcast] at hR
  refine⟨r0,left,hR,?_⟩
  rw[hmul,hE]
  obtain⟨g1,g2⟩:=fe 0 (decide (a<0) != decide (b<0)) r0 left
  rw[iP g1 g2]
def ut (z:Nat):Prop:=z<18446744073709551616∧9218868437227405312<z % 9223372036854775808
theorem Al (x y t:Nat):ut ((Question.nanBits .f64 x y).cut t):=by
 have h:(Question.nanBits .f64 x y).cut t=(t % 2)*2^63+0x7ff0000000000000+1+(t/2) % (2^52-1):=rfl
 have e63:(2:Nat)^63=9223372036854775808:=by decide
 have e52:(2:Nat)^52-1=4503599627370495:=by decide
 rw[h,e63,e52]
 have hc:=Nat.mod_lt (t/2) (show 0<4503599627370495 by decide)
 have hm:t % 2=0∨t % 2=1:=by omega
 generalize t/2 % 4503599627370495=c at *
 unfold ut
 rcases hm with h2|h2
 ·rw[h2];omega
 ·rw[h2];omega
theorem kA {P:Program} (op:BinOp) (ho:op=.add∨op=.sub∨op=.mul∨op=.quo) (t:TypeId) (x y:Nat) (w:World) :
  ∃ z w',(binOp op t (.float .f64 x) (.float .f64 y)).run P w=.ok (.float .f64 z) w'∧((floatBits op .f64 x y=some z∧w'=w)∨(floatBits op .f64 x y=none∧ut z∧w'=w.drew)):=by
 cases h:floatBits op .f64 x y with
 | some r=>exact⟨r,w,run_float_arith w op t .f64 x y r h,.inl ⟨rfl,rfl⟩⟩
 | none=>
  refine⟨_,w.drew,?_,.inr ⟨rfl,Al x y (w.tape w.drawn (.nanBits .f64 x y)),rfl⟩⟩
  unfold floatBits at h
  rcases ho with rfl|rfl|rfl|rfl<;>simp only at h<;>simp[binOp,Op.floatArith,h]<;>exact fun hf=>absurd (show false=true from hf) (by decide)
def FW (p:Int) (x:Nat):Prop:=(aR p≠4∧ax p∧x=wd p)∨(p=9221120237041090561∧ut x)
def yj (x:Nat):Int:=if x<9223372036854775808 then (x:Int) else (x:Int)-18446744073709551616
theorem Am {p:Int} (h:ax p):yj (wd p)=p:=by
 unfold ax at h
 unfold yj wd
 split<;>omega
def de (S:Int):Int:=yj (Ieee.double.nearest (decide (S<0)) S.natAbs (-4194304))
theorem yk:pw (-4194304)=1:=by unfold pw;rfl
theorem jf {ng:Bool} {r:Int} (h0:0<=r) (h1:r<=9218868437227405312):ax (aP ng r)∧aR (aP ng r)≠4:=by
 have hr:ax (aP ng r):=by unfold ax aP;cases ng<;>simp<;>omega
 refine⟨hr,fun q=>?_⟩
 have:=(ek hr).1.1 q
 unfold rg aP at this
 cases ng
 ·simp only[Bool.false_eq_true,if_false] at this;split at this<;>omega
 ·simp only[if_true] at this;split at this<;>omega
theorem eH {S:Int} (h:S≠0):∃ (A:Int) (r0:Nat) (left:Int),S=sg (decide (S<0)) A∧ei A r0 left∧de S=aP (decide (S<0)) (bT 0 (decide (S<0)) r0 left):=by
 obtain⟨A,r0,left,h1,h2,h3⟩:=nA (S:=S) (t:=S) (base:=-4194304) (by decide) (by rw[yk,Int.mul_one]) h
 refine⟨A,r0,left,h1,h2,?_⟩
 unfold de
 rw[h3]
 obtain⟨g1,g2⟩:=fe 0 (decide (S<0)) r0 left
 exact Am (jf g1 g2).1
theorem nB {g:Bool} {A B:Int} (h:sg g A=sg g B):A=B:=by
 cases g
 ·exact h
 ·exact Int.neg_inj.1 h
def aE (p q:Int):Int :=
 if aR p=4∨aR q=4 then 9221120237041090561
 else if rg p=9218868437227405312 then (if rg q=9218868437227405312∧decide (p<0)≠decide (q<0) then 9221120237041090561 else p)
 else if rg q=9218868437227405312 then q
 else if am p+am q=0 then aP (decide (p<0)&&decide (q<0)) 0 else de (am p+am q)
theorem dU {p:Int} (hp:ax p):aF p=true↔rg p<9218868437227405312:=by
 obtain⟨r0,r1⟩:=fh hp
 have hf:0<=cx p∧cx p<4503599627370496:=by unfold cx;omega
 have hg:0<=bZ p∧bZ p<2048:=by unfold bZ;omega
 unfold aF
 simp
 omega
theorem yl {p q:Int} (hp:ax p) (hq:ax q) (pp:aF p=true) (pq:aF q=true):Ieee.double.add (wd p) (wd q)=some (wd (if am p+am q=0 then aP (decide (p<0)&&decide (q<0)) 0 else de (am p+am q))):=by
 obtain⟨h0,h1⟩:=DA hp hq pp pq
 by_cases hS:am p+am q=0
 ·rw[if_pos hS];exact h0 hS
 ·rw[if_neg hS]
  obtain⟨A,r0,left,a1,a2,a3⟩:=h1 hS
  obtain⟨B,s0,k,b1,b2,b3⟩:=eH hS
  have hAB:=nB (a1.symm.trans b1)
  subst hAB
  obtain⟨h2,h3⟩:=a2.unique b2
  subst h2 h3
  rw[a3,b3]
theorem fU {p:Int} (hp:ax p) (h:rg p=9218868437227405312):Ieee.double.read (wd p)=.infinity (decide (p<0)):=by
 have hw:((wd p % 9223372036854775808:Nat):Int)=rg p:=lO hp
 have:=kg Ieee.double yZ (wd p) (by rw[fP,kh];omega)
 rwa [fP,kZ hp] at this
theorem jK {p:Int} (hp:ax p) (h:rg p=9218868437227405312):Ieee.double.write (.infinity (decide (p<0)))=wd p:=by
 unfold Format.write
 dsimp only
 rw[kh]
 have:=iP (ng:=decide (p<0)) (r:=9218868437227405312) (by decide) (by decide)
 have e:aP (decide (p<0)) 9218868437227405312=p:=by
  unfold rg at h
  unfold aP
  by_cases h0:p<0
  ·rw[if_pos h0] at h;rw[decide_eq_true h0,if_pos rfl];omega
  ·rw[if_neg h0] at h;rw[decide_eq_false h0,if_neg (by decide)];omega
 rw[e] at this
 exact this
theorem jB:aR 9221120237041090561=4:=by decide
theorem FW.pat {p:Int} (h:aR p≠4) (hp:ax p):FW p (wd p):=.inl ⟨h,hp,rfl⟩
theorem FW.read_nan {p:Int} {x:Nat} (h:FW p x) (h4:aR p=4):∃ s t,Ieee.double.read x=.nan s t:=by
 rcases h with⟨h,_⟩|⟨_,h⟩
 ·exact absurd h4 h
 ·exact M.ql Ieee.double yZ x (by rw[fP,kh];exact h.2)
theorem FW.of {p:Int} {x:Nat} (h:FW p x) (h4:aR p≠4):ax p∧x=wd p∧0<=rg p∧rg p<=9218868437227405312:=by
 rcases h with⟨_,h1,h2⟩|⟨h,_⟩
 ·obtain⟨r0,_⟩:=fh h1
  refine⟨h1,h2,r0,?_⟩
  rcases Int.lt_or_le 9218868437227405312 (rg p) with g|g
  ·exact absurd ((ek h1).1.2 g) h4
  ·exact g
 ·rw[h] at h4;exact absurd jB h4
theorem gy {S:Int} (h:S≠0):ax (de S)∧aR (de S)≠4:=by
 obtain⟨A,r0,left,_,_,e⟩:=eH h
 rw[e]
 obtain⟨g1,g2⟩:=fe 0 (decide (S<0)) r0 left
 exact jf g1 g2
theorem qR {p q:Int} {x y:Nat} (hx:FW p x) (hy:FW q y):(∃ z,Ieee.double.add x y=some z∧FW (aE p q) z)∨(Ieee.double.add x y=none∧aE p q=9221120237041090561):=by
 by_cases h4:aR p=4∨aR q=4
 ·right
  refine⟨?_,by unfold aE;rw[if_pos h4]⟩
  unfold Format.add
  rcases h4 with h|h
  ·obtain⟨s,t,e⟩:=hx.read_nan h
   rw[e]
   rfl
  ·obtain⟨s,t,e⟩:=hy.read_nan h
   rw[e]
   cases Ieee.double.read x<;>rfl
 ·have h4p:aR p≠4:=fun h=>h4 (.inl h)
  have h4q:aR q≠4:=fun h=>h4 (.inr h)
  obtain⟨rp,rfl,p0,p1⟩:=hx.of h4p
  obtain⟨rq,rfl,q0,q1⟩:=hy.of h4q
  unfold aE
  rw[if_neg h4]
  by_cases ip:rg p=9218868437227405312
  ·rw[if_pos ip]
   have ep:=fU rp ip
   by_cases iq:rg q=9218868437227405312
   ·have eq:=fU rq iq
    by_cases hs:decide (p<0)=decide (q<0)
    ·left
     refine⟨wd p,?_,?_⟩
     ·unfold Format.add
      rw[ep,eq]
      unfold Datum.sum
      dsimp only
      rw[if_pos hs]
      show some (Ieee.double.write (.infinity (decide (p<0))))=_
      rw[jK rp ip]
     ·rw[if_neg (fun h=>h.2 hs)]
      exact FW.pat h4p rp
    ·right
     refine⟨?_,by rw[if_pos ⟨iq,hs⟩]⟩
     unfold Format.add
     rw[ep,eq]
     unfold Datum.sum
     dsimp only
     rw[if_neg hs]
     rfl
   ·left
    obtain⟨m,u,eq,_⟩:=gx rq ((dU rq).2 (by omega))
    refine⟨wd p,?_,?_⟩
    ·unfold Format.add
     rw[ep,eq]
     show some (Ieee.double.write (.infinity (decide (p<0))))=_
     rw[jK rp ip]
    ·rw[if_neg (fun h=>iq h.1)]
     exact FW.pat h4p rp
  ·rw[if_neg ip]
   have pp:=(dU rp).2 (by omega)
   by_cases iq:rg q=9218868437227405312
   ·left
    rw[if_pos iq]
    have eq:=fU rq iq
    obtain⟨m,u,ep,_⟩:=gx rp pp
    refine⟨wd q,?_,FW.pat h4q rq⟩
    unfold Format.add
    rw[ep,eq]
    show some (Ieee.double.write (.infinity (decide (q<0))))=_
    rw[jK rq iq]
   ·left
    rw[if_neg iq]
    refine⟨_,yl rp rq pp ((dU rq).2 (by omega)),?_⟩
    by_cases hS:am p+am q=0
    ·rw[if_pos hS]
     obtain⟨g1,g2⟩:=jf (ng:=decide (p<0)&&decide (q<0)) (r:=0) (by decide) (by decide)
     exact FW.pat g2 g1
    ·rw[if_neg hS]
     exact FW.pat (gy hS).2 (gy hS).1
theorem wm {x y:Nat} (h1:x % Ieee.double.signWeight=y % Ieee.double.signWeight) (h2:(x/Ieee.double.signWeight % 2 == 1)=!(y/Ieee.double.signWeight % 2 == 1)):Ieee.double.read x=(Ieee.double.read y).opposite:=by
 unfold Format.read
 dsimp only
 rw[h1,h2]
 split
 ·rfl
 ·split
  ·rfl
  ·split
   ·rfl
   ·rfl
theorem ym {q:Int} (hq:ax q) (h4:aR q≠4):Ieee.double.read (wd (neg q))=(Ieee.double.read (wd q)).opposite:=by
 have hn:neg q=if q<0 then q+9223372036854775808 else q-9223372036854775808:=by unfold neg;rw[if_neg h4]
 refine wm ?_ ?_
 ·rw[fP,hn]
  unfold ax at hq
  unfold wd
  split<;>omega
 ·rw[fP,kZ (dD hq),kZ hq,hn]
  unfold ax at hq
  by_cases h:q<0
  ·rw[if_pos h,decide_eq_false (p:=q+9223372036854775808<0) (by omega),decide_eq_true h];rfl
  ·rw[if_neg h,decide_eq_true (p:=q-9223372036854775808<0) (by omega),decide_eq_false h];rfl
theorem Ao {q:Int} (h:aR q=4):neg q=9221120237041090561:=by unfold neg;rw[if_pos h]
theorem Bp {p q:Int} {x y:Nat} (hx:FW p x) (hy:FW q y):(∃ z,Ieee.double.sub x y=some z∧FW (aE p (neg q)) z)∨(Ieee.double.sub x y=none∧aE p (neg q)=9221120237041090561):=by
 by_cases h4:aR q=4
 ·right
  refine⟨?_,by unfold aE;rw[Ao h4,if_pos (.inr jB)]⟩
  obtain⟨s,t,e⟩:=hy.read_nan h4
  unfold Format.sub
  rw[e]
  cases Ieee.double.read x<;>rfl
 ·obtain⟨rq,rfl,_,_⟩:=hy.of h4
  have hs:Ieee.double.sub x (wd q)=Ieee.double.add x (wd (neg q)):=by
   unfold Format.sub Format.add
   rw[ym rq h4]
  rw[hs]
  exact qR hx (FW.pat (Ah rq h4) (dD rq))
def fE (p q:Int):Bool:=decide (p<0) != decide (q<0)
def dH (p q:Int):Int:=sg (fE p q) (am p*am q/2^4194304)
def av (p q:Int):Int :=
 if aR p=4∨aR q=4 then 9221120237041090561
 else if rg p=9218868437227405312∨rg q=9218868437227405312 then (if rg p=0∨rg q=0 then 9221120237041090561 else aP (fE p q) 9218868437227405312)
 else if dH p q=0 then aP (fE p q) 0 else de (sg (fE p q) (dH p q))
theorem yp {g:Bool} {D Z C:Int} (hZ:0<Z) (h:sg g D*Z=C):sg g (C/Z)=D:=by
 rw[<- h,Int.mul_ediv_cancel _ (Int.ne_of_gt hZ)]
 cases g
 ·rfl
 ·exact Int.neg_neg D
theorem qS {g:Bool} {D:Int} {r0:Nat} {left:Int} (h0:0<D) (hR:ei D r0 left):de (sg g D)=aP g (bT 0 g r0 left):=by
 have hd:decide (sg g D<0)=g:=by
  cases g
  ·exact decide_eq_false (by show ¬ D<0;omega)
  ·exact decide_eq_true (by show -D<0;omega)
 have hn:sg g D≠0:=by
  cases g
  ·show D≠0;omega
  ·show -D≠0;omega
 obtain⟨A,s0,k,e1,e2,e3⟩:=eH hn
 rw[hd] at e1 e3
 have:=nB e1
 subst this
 obtain⟨h1,h2⟩:=hR.unique e2
 subst h1 h2
 exact e3
theorem yq {p q:Int} (hp:ax p) (hq:ax q) (pp:aF p=true) (pq:aF q=true):Ieee.double.mul (wd p) (wd q)=some (wd (if dH p q=0 then aP (fE p q) 0 else de (sg (fE p q) (dH p q)))):=by
 obtain⟨D,d0,d1,d2,d3⟩:=DB hp hq pp pq
 have hf:dH p q=D:=yp (aJ 4194304) d1
 rw[hf]
 by_cases h:D=0
 ·rw[if_pos h];exact d2 h
 ·rw[if_neg h]
  obtain⟨r0,left,hR,hE⟩:=d3 h
  rw[hE,qS (by omega) hR]
  rfl
theorem kB (g:Bool):Ieee.double.write (.infinity g)=wd (aP g 9218868437227405312):=by
 unfold Format.write
 dsimp only
 rw[kh]
 exact iP (ng:=g) (r:=9218868437227405312) (by decide) (by decide)
theorem qT {q:Int} {m u:Nat} (hq:ax q) (pq:aF q=true) (h:am q=sg (decide (q<0)) ((m:Int)*pw (-1074+(u:Int)))):m=0↔rg q=0:=by
 have e:=mI hq pq
 rw[h] at e
 have e2:=nB e
 obtain⟨r0,r1⟩:=ur hq pq
 constructor
 ·intro hm
  rw[hm] at e2
  have e3:vS (rg q).toNat=0:=by rw[<- e2];simp
  rcases Nat.eq_zero_or_pos (rg q).toNat with g|g
  ·omega
  ·have:=lU g
   rw[fT,e3] at this
   exact absurd this (Int.lt_irrefl _)
 ·intro hr
  rw[hr] at e2
  have e3:(m:Int)*pw (-1074+(u:Int))=0:=by rw[e2];exact fT
  have:=(mj (ct (-1074+(u:Int)))).2 e3
  omega
theorem wn {p q:Int} {x y:Nat} (hx:FW p x) (hy:FW q y):(∃ z,Ieee.double.mul x y=some z∧FW (av p q) z)∨(Ieee.double.mul x y=none∧av p q=9221120237041090561):=by
 by_cases h4:aR p=4∨aR q=4
 ·right
  refine⟨?_,by unfold av;rw[if_pos h4]⟩
  unfold Format.mul
  rcases h4 with h|h
  ·obtain⟨s,t,e⟩:=hx.read_nan h
   rw[e]
   rfl
  ·obtain⟨s,t,e⟩:=hy.read_nan h
   rw[e]
   cases Ieee.double.read x<;>rfl
 ·have h4p:aR p≠4:=fun h=>h4 (.inl h)
  have h4q:aR q≠4:=fun h=>h4 (.inr h)
  obtain⟨rp,rfl,p0,p1⟩:=hx.of h4p
  obtain⟨rq,rfl,q0,q1⟩:=hy.of h4q
  have hI:=jf (ng:=fE p q) (r:=9218868437227405312) (by decide) (by decide)
  have hX:(decide (p<0) ^^ decide (q<0))=fE p q:=wk _ _
  have hX2:(decide (q<0) ^^ decide (p<0))=fE p q:=by rw[<- hX];cases decide (p<0)<;>cases decide (q<0)<;>rfl
  unfold av
  rw[if_neg h4]
  by_cases ip:rg p=9218868437227405312
  ·rw[if_pos (.inl ip)]
   have ep:=fU rp ip
   by_cases iq:rg q=9218868437227405312
   ·left
    rw[if_neg (by omega)]
    refine⟨_,?_,FW.pat hI.2 hI.1⟩
    unfold Format.mul
    rw[ep,fU rq iq]
    show some (Ieee.double.write (.infinity (decide (p<0) ^^ decide (q<0))))=_
    rw[kB,hX]
   ·have pq:=(dU rq).2 (by omega)
    obtain⟨m,u,eq,vq⟩:=gx rq pq
    have hz:=qT rq pq vq
    by_cases hm:m=0
    ·right
     refine⟨?_,by rw[if_pos (.inr (hz.1 hm))]⟩
     unfold Format.mul
     rw[ep,eq,hm]
     rfl
    ·left
     rw[if_neg (fun h=>by rcases h with h|h;omega;exact hm (hz.2 h))]
     refine⟨_,?_,FW.pat hI.2 hI.1⟩
     unfold Format.mul
     rw[ep,eq]
     unfold Datum.product
     dsimp only
     rw[if_neg hm]
     show some (Ieee.double.write (.infinity (decide (p<0) ^^ decide (q<0))))=_
     rw[kB,hX]
  ·have pp:=(dU rp).2 (by omega)
   by_cases iq:rg q=9218868437227405312
   ·rw[if_pos (.inr iq)]
    obtain⟨m,u,ep,vp⟩:=gx rp pp
    have hz:=qT rp pp vp
    have eq:=fU rq iq
    by_cases hm:m=0
    ·right
     refine⟨?_,by rw[if_pos (.inl (hz.1 hm))]⟩
     unfold Format.mul
     rw[ep,eq,hm]
     rfl
    ·left
     rw[if_neg (fun h=>by rcases h with h|h;exact hm (hz.2 h);omega)]
     refine⟨_,?_,FW.pat hI.2 hI.1⟩
     unfold Format.mul
     rw[ep,eq]
     unfold Datum.product
     dsimp only
     rw[if_neg hm]
     show some (Ieee.double.write (.infinity (decide (q<0) ^^ decide (p<0))))=_
     rw[kB,hX2]
   ·left
    rw[if_neg (by omega)]
    refine⟨_,yq rp rq pp ((dU rq).2 (by omega)),?_⟩
    by_cases hS:dH p q=0
    ·rw[if_pos hS]
     obtain⟨g1,g2⟩:=jf (ng:=fE p q) (r:=0) (by decide) (by decide)
     exact FW.pat g2 g1
    ·rw[if_neg hS]
     have hn:sg (fE p q) (dH p q)≠0:=by
      generalize dH p q=D at *
      cases fE p q
      ·exact hS
      ·show -D≠0;omega
     exact FW.pat (gy hn).2 (gy hn).1
end Go.Proofs.YtcklaogdjpbagaaGreatDoor
namespace Go.Proofs.YtcklaogdjpbagaaGreatDoor.M
def Fl (n:Int):Prop:=∃ k:Nat,(2^k:Int) ∣ n∧(n.natAbs:Int)<9007199254740992*2^k
def Nr (S h:Int):Prop:=Fl h∧∀ f,Fl f->(h-S).natAbs<=(f-S).natAbs
theorem p2 (k:Nat):(0:Int)<2^k:=Int.pow_pos (by decide)
theorem iE (k:Nat):(2:Int)^(k+1)=2*2^k:=by rw[Int.pow_succ,Int.mul_comm]
theorem jC {j k:Nat} (h:j<=k):(2^j:Int) ∣ 2^k:=⟨2^(k-j),by rw[<- Int.pow_add,Nat.add_sub_cancel' h]⟩
theorem mJ {j k:Nat} (h:j<=k):(2:Int)^j<=2^k:=Int.le_of_dvd (p2 k) (jC h)
theorem Bq {j k:Nat} (h:(2:Int)^j<2^k):j<k:=by
 rcases Nat.lt_or_ge j k with c|c
 ·exact c
 ·have:=mJ c;omega
theorem Fl.neg {n:Int} (h:Fl n):Fl (-n):=by
 obtain⟨k,d,b⟩:=h
 exact⟨k,(Int.dvd_neg).2 d,by rw[Int.natAbs_neg];exact b⟩
theorem iQ:Fl 0:=⟨0,⟨0,by simp⟩,by simp⟩
theorem nC {n:Int} {k:Nat} (d:(2^k:Int) ∣ n) (b:(n.natAbs:Int)<=9007199254740992*2^k):Fl n:=by
 by_cases c:(n.natAbs:Int)<9007199254740992*2^k
 ·exact⟨k,d,c⟩
 ·have e:(n.natAbs:Int)=9007199254740992*2^k:=by omega
  refine⟨k+1,?_,?_⟩
  ·rw[<- Int.dvd_natAbs,e,iE]
   exact⟨4503599627370496,by omega⟩
  ·rw[iE];have:=p2 k;omega
theorem Fl.dbl {n:Int} (h:Fl n):Fl (2*n):=by
 obtain⟨k,⟨c,rfl⟩,b⟩:=h
 refine⟨k+1,⟨c,by rw[iE,Int.mul_assoc]⟩,?_⟩
 rw[iE]
 omega
theorem Nr.neg {S h:Int} (n:Nr S h):Nr (-S) (-h):=by
 refine⟨n.1.neg,fun f hf=>?_⟩
 have:=n.2 (-f) hf.neg
 omega
theorem dJ {S h:Int} (hS:Fl S) (n:Nr S h):h=S:=by
 have:=n.2 S hS
 omega
theorem qU {x y:Int} (hx:Fl x) (hy:Fl y) (h1:(x-y).natAbs<=x.natAbs) (h2:(x-y).natAbs<=y.natAbs):Fl (x-y):=by
 obtain⟨j,dx,bx⟩:=hx
 obtain⟨k,dy,by1⟩:=hy
 rcases Nat.le_total j k with c|c
 ·exact⟨j,Int.dvd_sub dx (Int.dvd_trans (jC c) dy),by omega⟩
 ·exact⟨k,Int.dvd_sub (Int.dvd_trans (jC c) dx) dy,by omega⟩
theorem wo {x y:Int} (hx:Fl x) (hy:Fl y) (h1:(x+y).natAbs<=x.natAbs) (h2:(x+y).natAbs<=y.natAbs):Fl (x+y):=by
 have e:x+y=x - -y:=by omega
 rw[e]
 exact qU hx hy.neg (by omega) (by omega)
theorem nE {S h:Int} {k:Nat} (n:Nr S h) (d:(2^k:Int) ∣ S) (h0:0<=S):(2^k:Int) ∣ h:=by
 by_cases c:(S.natAbs:Int)<=9007199254740992*2^k
 ·rw[dJ (nC d c) n];exact d
 ·have hT:Fl (9007199254740992*2^k):=nC ⟨9007199254740992,by rw[Int.mul_comm]⟩ (by have:=p2 k;omega)
  have h1:=n.2 _ hT
  obtain⟨j,dj,bj⟩:=n.1
  have hk:=p2 k
  have hj:=p2 j
  have:(2:Int)^k<2^j:=by omega
  exact Int.dvd_trans (jC (Nat.le_of_lt (Bq this))) dj
theorem nF {S h:Int} {k:Nat} (n:Nr S h) (d:(2^k:Int) ∣ S):(2^k:Int) ∣ h:=by
 rcases Int.le_total 0 S with c|c
 ·exact nE n d c
 ·have:=nE n.neg ((Int.dvd_neg).2 d) (by omega)
  exact(Int.dvd_neg).1 this
theorem tG {a b h:Int} (ha:Fl a) (hb:Fl b) (n:Nr (a+b) h):Fl (a+b-h):=by
 have e1:=n.2 a ha
 have e2:=n.2 b hb
 obtain⟨j,da,ba⟩:=ha
 obtain⟨k,db,bb⟩:=hb
 rcases Nat.le_total j k with c|c
 ·have d:=Int.dvd_add da (Int.dvd_trans (jC c) db)
  exact⟨j,Int.dvd_sub d (nF n d),by omega⟩
 ·have d:=Int.dvd_add (Int.dvd_trans (jC c) da) db
  exact⟨k,Int.dvd_sub d (nF n d),by omega⟩
theorem qV {a b h:Int} (ha:Fl a) (hb:Fl b) (h0:0<=a) (hab:b.natAbs<=a.natAbs) (n:Nr (a+b) h):Fl (h-a):=by
 have ea:=n.2 a ha
 have e2:=n.2 (2*a) ha.dbl
 have ez:=n.2 0 iQ
 by_cases hs:a<=2*h
 ·exact qU n.1 ha (by omega) (by omega)
 ·have hS:Fl (a+b):=by
   obtain⟨k,⟨c,hc⟩,ba⟩:=ha
   cases k with
   | zero=>exact⟨0,⟨a+b,by simp⟩,by simp at ba ⊢;omega⟩
   | succ k=>
    have hf:Fl (2^k*c):=⟨k,⟨c,rfl⟩,by rw[iE] at ba hc;rw[Int.mul_assoc] at hc;omega⟩
    have e3:=n.2 _ hf
    rw[iE,Int.mul_assoc] at hc
    exact wo ⟨k+1,⟨c,by rw[iE,Int.mul_assoc];exact hc⟩,ba⟩ hb (by omega) (by omega)
  rw[dJ hS n,show a+b-a=b by omega]
  exact hb
theorem qW {a b h:Int} (ha:Fl a) (hb:Fl b) (hab:b.natAbs<=a.natAbs) (n:Nr (a+b) h):Fl (h-a):=by
 rcases Int.le_total 0 a with c|c
 ·exact qV ha hb c hab n
 ·have n2:=n.neg
  rw[show -(a+b)=-a + -b by omega] at n2
  have:=(qV ha.neg hb.neg (by omega) (by omega) n2).neg
  rwa [show -(-h - -a)=h-a by omega] at this
theorem qX (S:Int) (h0:0<=S):∃ k:Nat,S<9007199254740992*2^k∧(k=0∨4503599627370496*2^k<=S):=by
 have ex:∀ n:Nat,S<9007199254740992*2^n->∃ k:Nat,S<9007199254740992*2^k∧(k=0∨4503599627370496*2^k<=S):=by
  intro n
  induction n with
  | zero=>intro h;exact⟨0,h,.inl rfl⟩
  | succ n ih=>
   intro h
   by_cases c:S<9007199254740992*2^n
   ·exact ih c
   ·exact⟨n+1,h,.inr (by rw[iE];omega)⟩
 refine ex S.natAbs ?_
 have h1:S.natAbs<2^S.natAbs:=Nat.lt_two_pow_self
 have h2:((2^S.natAbs:Nat):Int)=2^S.natAbs:=by simp
 have h3:=p2 S.natAbs
 omega
theorem nG {S h:Int} (n:Nr S h) (h0:0<=S):1000*(h-S).natAbs<=S.natAbs:=by
 obtain⟨k,b,c⟩:=qX S h0
 have hk:=p2 k
 have hm:=Int.emod_nonneg S (show(2:Int)^k≠0 by omega)
 have hl:=Int.emod_lt_of_pos S hk
 have hf:Fl (S-S % 2^k):=by
  refine nC (k:=k) ⟨S/2^k,by have:=Int.emod_add_mul_ediv S (2^k);omega⟩ ?_
  have:0<=S-S % 2^k:=by
   have:=Int.emod_add_mul_ediv S (2^k)
   have h2:0<=2^k*(S/2^k):=Int.mul_nonneg (by omega) (Int.ediv_nonneg h0 (by omega))
   omega
  omega
 have e:=n.2 _ hf
 rcases c with c|c
 ·subst c
  have:S % 2^0=0:=by simp
  omega
 ·omega
theorem wp {S h:Int} (n:Nr S h):1000*(h-S).natAbs<=S.natAbs:=by
 rcases Int.le_total 0 S with c|c
 ·exact nG n c
 ·have:=nG n.neg (by omega)
  omega
theorem Ap {a b h v u p q l:Int} (ha:Fl a) (hb:Fl b) (nh:Nr (a+b) h) (nv:Nr (h-a) v) (nu:Nr (h-v) u) (np:Nr (a-u) p) (nq:Nr (b-v) q) (nl:Nr (p+q) l):l=a+b-h:=by
 have hd:=tG ha hb nh
 -- the step qW,where it is exact
 have A:Fl (h-a)->l=a+b-h:=by
  intro hx
  have e1:=dJ hx nv
  subst e1
  rw[show h-(h-a)=a by omega] at nu
  have e2:=dJ ha nu
  subst e2
  rw[show u-u=0 by omega] at np
  have e3:=dJ iQ np
  subst e3
  rw[show b-(h-u)=u+b-h by omega] at nq
  have e4:=dJ hd nq
  subst e4
  rw[show 0+(u+b-h)=u+b-h by omega] at nl
  exact dJ hd nl
 by_cases hab:b.natAbs<=a.natAbs
 ·exact A (qW ha hb hab nh)
 by_cases hha:a.natAbs<=h.natAbs
 ·-- h-v is exact
  have n1:Nr (h + -a) v:=by rw[show h + -a=h-a by omega];exact nv
  have hx:=(qW nh.1 ha.neg (by omega) n1).neg
  rw[show -(v-h)=h-v by omega] at hx
  have e1:=dJ hx nu
  subst e1
  have hy:=(tG nh.1 ha.neg n1).neg
  rw[show -(h + -a-v)=a-(h-v) by omega] at hy
  have e2:=dJ hy np
  subst e2
  have r1:=wp nh
  have r2:=nv.2 b hb
  have hz:Fl (b-v):=qU hb nv.1 (by omega) (by omega)
  have e3:=dJ hz nq
  subst e3
  rw[show a-(h-v)+(b-v)=a+b-h by omega] at nl
  exact dJ hd nl
 ·-- then the sum is exact
  have e1:=nh.2 a ha
  have e2:=nh.2 (-a) ha.neg
  have hS:Fl (a+b):=wo ha hb (by omega) (by omega)
  have e3:=dJ hS nh
  exact A (by rw[e3,show a+b-a=b by omega];exact hb)
theorem Cp {S h T:Int} (n:Nr S h) (hT:Fl T) (c:T<=S):T<=h:=by
 have:=n.2 T hT
 omega
theorem Cq (i:Nat) {m:Nat} (hm:(m:Int)<=9007199254740992):Fl ((m:Int)*2^i):=by
 refine nC (k:=i) ⟨m,by rw[Int.mul_comm]⟩ ?_
 have h1:0<=(m:Int)*2^i:=Int.mul_nonneg (by omega) (Int.le_of_lt (p2 i))
 have h2:(m:Int)*2^i<=9007199254740992*2^i:=Int.mul_le_mul_of_nonneg_right hm (Int.le_of_lt (p2 i))
 omega
theorem yr {h:Int} {i:Nat} (f:Fl h) (c:4503599627370496*2^i<=(h.natAbs:Int)):(2^i:Int) ∣ h:=by
 obtain⟨j,d,b⟩:=f
 have hi:=p2 i
 have hj:=p2 j
 cases i with
 | zero=>exact⟨h,by simp⟩
 | succ i=>
  rw[iE] at c
  have:(2:Int)^i<2^j:=by omega
  exact Int.dvd_trans (jC (Bq this)) d
theorem ws (S:Int) (i:Nat):∃ T:Int,(2^i:Int) ∣ T∧2*(T-S).natAbs<=(2^i:Int):=by
 have hi:=p2 i
 have hm:=Int.emod_nonneg S (show(2:Int)^i≠0 by omega)
 have hl:=Int.emod_lt_of_pos S hi
 have e:=Int.emod_add_mul_ediv S (2^i)
 generalize S % 2^i=t at *
 by_cases c:2*t<=2^i
 ·exact⟨S-t,⟨S/2^i,by omega⟩,by omega⟩
 ·exact⟨S-t+2^i,⟨S/2^i+1,by rw[Int.mul_add,Int.mul_one];omega⟩,by omega⟩
theorem Br {S h:Int} {i:Nat} (n:Nr S h) (c:(S.natAbs:Int)<=9007199254740992*2^i):2*((h-S).natAbs:Int)<=2^i:=by
 obtain⟨T,d,e⟩:=ws S i
 have hi:=p2 i
 have hT:Fl T:=by
  by_cases c2:(T.natAbs:Int)<=9007199254740992*2^i
  ·exact nC d c2
  ·exfalso
   obtain⟨t,rfl⟩:=d
   have h1:(9007199254740992:Int)<t.natAbs:=by
    rw[Int.natAbs_mul] at c2
    have e2:((2^i:Int).natAbs:Int)=2^i:=by omega
    push_cast at c2
    rcases Int.lt_or_le 9007199254740992 (t.natAbs:Int) with g|g
    ·exact g
    ·exfalso
     have:=Int.mul_le_mul_of_nonneg_left g (Int.le_of_lt hi)
     rw[e2] at c2
     omega
   have h2:(2^i:Int)*9007199254740993<=((2^i*t).natAbs:Int):=by
    rw[Int.natAbs_mul]
    have e2:((2^i:Int).natAbs:Int)=2^i:=by omega
    rw[Int.natCast_mul,e2]
    exact Int.mul_le_mul_of_nonneg_left (by omega) (Int.le_of_lt hi)
   generalize 2^i*t=T at *
   omega
 have:=n.2 T hT
 omega
theorem oZ (i:Nat) (t:Int):((2^i*t).natAbs:Int)=2^i*(t.natAbs:Int):=by
 have hi:=p2 i
 rw[Int.natAbs_mul,Int.natCast_mul,show((2^i:Int).natAbs:Int)=2^i by omega]
theorem uu {x y:Int} {X Y:Int} (hx:(x.natAbs:Int)<=X) (hy:(y.natAbs:Int)<=Y):((x*y).natAbs:Int)<=X*Y:=by
 rw[Int.natAbs_mul,Int.natCast_mul]
 exact Int.mul_le_mul hx hy (by omega) (by omega)
end Go.Proofs.YtcklaogdjpbagaaGreatDoor.M
namespace Go.Proofs.YtcklaogdjpbagaaGreatDoor
open Go Go.Proofs.Tryz Go.RowKit Go.Proofs.YtcklaogdjpbagaaGreatDoor.M Ieee
def iV (p:Int):Int:=sg (decide (p<0)) (V Ieee.double (rg p).toNat:Int)
theorem cd {p:Int} (hp:ax p) (h:aF p=true):am p=iV p*pw (-1074):=by
 rw[mI hp h];unfold iV vS;rw[ol]
theorem oo (n k:Nat):((n*2^k:Nat):Int)=2^k*(n:Int):=by rw[Int.natCast_mul,Int.mul_comm];simp
theorem Bs {S q:Int} (hq:0<q) (h:S≠0):S*q≠0:=fun c=>by
 rcases Int.mul_eq_zero.1 c with d|d<;>omega
theorem Cr {S q:Int} (hq:0<q):decide (S*q<0)=decide (S<0):=by
 congr 1
 exact propext (mi hq).symm
theorem Cs {S q A:Int} (hq:0<q) (h:S*q=sg (decide (S<0)) A):A=(S.natAbs:Int)*q:=by
 have:=oY (t:=S) hq
 rw[this] at h
 exact(nB h).symm
theorem Bt {S h:Int} (n:Nr (S.natAbs:Int) h):Nr S (sg (decide (S<0)) h):=by
 by_cases c:S<0
 ·rw[decide_eq_true c]
  have n2:=n.neg
  have e:-(S.natAbs:Int)=S:=by omega
  rw[e] at n2
  exact n2
 ·rw[decide_eq_false c]
  have e:(S.natAbs:Int)=S:=by omega
  rw[e] at n
  exact n
theorem oq (r:Nat):Fl (V Ieee.double r:Int):=by
 unfold V
 rw[lx]
 by_cases h:r<4503599627370496
 ·rw[if_pos h]
  exact⟨0,⟨r,by simp⟩,by simp;omega⟩
 ·rw[if_neg h]
  have hm:=Nat.mod_lt r (show 0<4503599627370496 by decide)
  obtain⟨n,hn⟩:∃ n,4503599627370496+r % 4503599627370496=n:=⟨_,rfl⟩
  rw[hn]
  refine⟨r/4503599627370496-1,⟨n,oo _ _⟩,?_⟩
  rw[Int.natAbs_natCast,oo,Int.mul_comm]
  exact Int.mul_lt_mul_of_pos_right (by omega) (p2 _)
theorem DC {f:Int} (h:Fl f):∃ r:Nat,(f.natAbs:Int)=(V Ieee.double r:Int):=by
 obtain⟨k,b,c⟩:=qX (f.natAbs:Int) (by omega)
 rcases Nat.eq_zero_or_pos k with g|g
 ·subst g
  have:=gl Ieee.double 0 f.natAbs (.inl ⟨rfl,by rw[lx];simp at b;omega⟩)
  exact⟨_,by rw[this];simp⟩
 ·have c2:4503599627370496*2^k<=(f.natAbs:Int):=by
   rcases c with c|c
   ·omega
   ·exact c
  obtain⟨t,ht⟩:=yr h c2
  have e:(f.natAbs:Int)=2^k*(t.natAbs:Int):=by rw[ht,oZ]
  rw[e] at b c2
  have hk:=p2 k
  have b2:(t.natAbs:Int)<9007199254740992:=Int.lt_of_mul_lt_mul_left (by rw[Int.mul_comm (2^k) 9007199254740992];exact b) (Int.le_of_lt hk)
  have c3:4503599627370496<=(t.natAbs:Int):=Int.le_of_mul_le_mul_left (by rw[Int.mul_comm (2^k) 4503599627370496];exact c2) hk
  have:=gl Ieee.double k t.natAbs (.inr ⟨by rw[lx];omega,by rw[lx];omega⟩)
  exact⟨_,by rw[this,e];push_cast;rw[Int.mul_comm]⟩
theorem yt {r s:Nat} (h:r<=s):(V Ieee.double r:Int)<=V Ieee.double s:=by
 rcases Nat.lt_or_eq_of_le h with g|g
 ·have:=iA Ieee.double g;omega
 ·rw[g];omega
theorem DE {S:Int} {ng:Bool} {r0:Nat} {left:Int} (h0:0<=S) (hR:ei (S*pw (-1074)) r0 left) (hf:bT 0 ng r0 left<9218868437227405312):Nr S (V Ieee.double (bT 0 ng r0 left).toNat:Int):=by
 obtain⟨lo,hi,l0,l1,l2,l3⟩:=hR
 have hq:=ct (-1074)
 unfold vS at *
 generalize pw (-1074)=q at *
 have g1:(V Ieee.double r0:Int)<=S:=Int.le_of_mul_le_mul_right lo hq
 have g2:S<(V Ieee.double (r0+1):Int):=Int.lt_of_mul_lt_mul_right hi (Int.le_of_lt hq)
 have g3:left=2->2*S=(V Ieee.double r0:Int)+V Ieee.double (r0+1):=fun c=>by
  have:=l2.1 c
  rw[<- Int.add_mul,<- Int.mul_assoc] at this
  exact Int.eq_of_mul_eq_mul_right (by omega) this
 have g4:left=3->(V Ieee.double r0:Int)+V Ieee.double (r0+1)<2*S:=fun c=>by
  have:=l3.1 c
  rw[<- Int.add_mul,<- Int.mul_assoc] at this
  exact Int.lt_of_mul_lt_mul_right this (Int.le_of_lt hq)
 have g5:left≠3->2*S<=(V Ieee.double r0:Int)+V Ieee.double (r0+1):=fun c=>by
  rcases Int.lt_or_le ((V Ieee.double r0:Int)+V Ieee.double (r0+1)) (2*S) with d|d
  ·have:=Int.mul_lt_mul_of_pos_right d hq
   rw[Int.add_mul,Int.mul_assoc] at this
   exact absurd (l3.2 this) c
  ·exact d
 clear l0 l1 l2 l3 lo hi
 have far:∀ f:Int,Fl f->f<=V Ieee.double r0∨V Ieee.double (r0+1)<=f:=by
  intro f hf
  obtain⟨s,hs⟩:=DC hf
  rcases Nat.lt_or_ge r0 s with c|c
  ·have:=yt (show r0+1<=s from c)
   have:=yt (show 0<=r0 by omega)
   omega
  ·have:=yt c
   omega
 unfold bT at hf ⊢
 by_cases hr:(r0:Int)<9218868437227405312
 ·rw[if_pos hr] at hf ⊢
  cases hu:cI 0 ng (decide (r0 % 2=1)) left
  ·rw[if_neg (by decide)]
   have e:((r0:Int)+0).toNat=r0:=by omega
   rw[e]
   have hl:left≠3:=fun c=>by
    subst c
    unfold cI at hu
    simp at hu
   refine⟨oq r0,fun f hf=>?_⟩
   have:=far f hf
   have:=g5 hl
   omega
  ·rw[if_pos rfl]
   have e:((r0:Int)+1).toNat=r0+1:=by omega
   rw[e]
   have hl:left=3∨left=2:=by
    unfold cI at hu
    simp at hu
    rcases hu with c|c
    ·exact .inl c
    ·exact .inr c.1
   refine⟨oq (r0+1),fun f hf=>?_⟩
   have:=far f hf
   rcases hl with c|c
   ·have:=g4 c;omega
   ·have:=g3 c;omega
 ·rw[if_neg hr] at hf
  unfold fC cI at hf
  simp at hf
def kC:Int:=(V Ieee.double 9218868437227405311:Int)
theorem Ct {S:Int} {ng:Bool} {r0:Nat} {left:Int} (h0:S<=kC) (hR:ei (S*pw (-1074)) r0 left):bT 0 ng r0 left<9218868437227405312:=by
 obtain⟨lo,hi,l0,l1,l2,l3⟩:=hR
 have hq:=ct (-1074)
 unfold vS at *
 generalize pw (-1074)=q at *
 have g1:(V Ieee.double r0:Int)<=S:=Int.le_of_mul_le_mul_right lo hq
 have hr:r0<=9218868437227405311:=by
  rcases Nat.lt_or_ge 9218868437227405311 r0 with c|c
  ·have:=iA Ieee.double c
   unfold kC at h0
   omega
  ·exact c
 unfold bT
 rw[if_pos (by omega)]
 by_cases c:r0=9218868437227405311
 ·have e:S=(V Ieee.double r0:Int):=by rw[c] at g1 ⊢;unfold kC at h0;omega
  have:left=0:=l0.2 (by rw[e])
  subst this
  rw[if_neg (fun c=>gY c)]
  omega
 ·split<;>omega
theorem fi {ng:Bool} {r:Int} (h0:0<=r) (h1:r<=9218868437227405312):ax (aP ng r)∧rg (aP ng r)=r∧decide (aP ng r<0)=ng:=by
 unfold aP ax rg
 cases ng
 ·simp only[Bool.false_eq_true,if_false]
  rw[if_neg (by omega)]
  exact⟨by omega,rfl,decide_eq_false (by omega)⟩
 ·simp only[if_true]
  rw[if_pos (by omega)]
  exact⟨by omega,by omega,decide_eq_true (by omega)⟩
theorem kD {ng:Bool} {r:Int} (h0:0<=r) (h1:r<=9218868437227405312):aF (aP ng r)=decide (r<9218868437227405312):=by
 obtain⟨a,b,_⟩:=fi (ng:=ng) h0 h1
 have:=dU a
 rw[b] at this
 cases h:aF (aP ng r)
 ·refine(decide_eq_false fun c=>?_).symm
  rw[this.2 c] at h;cases h
 ·exact(decide_eq_true (this.1 h)).symm
theorem jT {ng:Bool} {r:Int} (h0:0<=r) (h1:r<=9218868437227405312):iV (aP ng r)=sg ng (V Ieee.double r.toNat:Int):=by
 obtain⟨_,b,c⟩:=fi (ng:=ng) h0 h1
 unfold iV
 rw[b,c]
theorem Aq:Nr 0 0:=⟨iQ,fun f _=>by omega⟩
theorem Ar {S:Int} (h:S≠0):ax (de (S*pw (-1074)))∧(aF (de (S*pw (-1074)))=true->Nr S (iV (de (S*pw (-1074)))))∧((S.natAbs:Int)<=kC->aF (de (S*pw (-1074)))=true):=by
 have hq:=ct (-1074)
 obtain⟨A,r0,left,e1,hR,e2⟩:=eH (Bs hq h)
 rw[Cr hq] at e1 e2
 have hA:=Cs hq e1
 rw[hA] at hR
 have hrr:=fe 0 (decide (S<0)) r0 left
 rw[e2]
 refine⟨(fi hrr.1 hrr.2).1,fun hp=>?_,fun hb=>?_⟩
 ·rw[kD hrr.1 hrr.2] at hp
  have n:=DE (ng:=decide (S<0)) (Int.natCast_nonneg _) hR (of_decide_eq_true hp)
  rw[jT hrr.1 hrr.2]
  exact Bt n
 ·rw[kD hrr.1 hrr.2]
  exact decide_eq_true (Ct hb hR)
theorem lV:ax 9221120237041090561:=by unfold ax;decide
theorem qY:aF 9221120237041090561=false:=by decide
theorem lz {p:Int} (hp:ax p) (h4:¬ aR p=4) (hi:¬ rg p=9218868437227405312):aF p=true:=by
 have:=(ek hp).1
 rw[dU hp]
 have:¬ 9218868437227405312<rg p:=fun c=>h4 (this.2 c)
 omega
theorem wt {p:Int} (hp:ax p) (hi:rg p=9218868437227405312):¬ aF p=true:=fun h=>by
 have:=(dU hp).1 h
 omega
theorem dh {p:Int} (hp:ax p) (h:aF p=true):¬ aR p=4∧¬ rg p=9218868437227405312:=by
 have h1:=(dU hp).1 h
 exact⟨fun c=>by have:=(ek hp).1.1 c;omega,by omega⟩
theorem pe {p q:Int} (hp:ax p) (hq:ax q) (h:aF (aE p q)=true):aF p=true∧aF q=true:=by
 unfold aE at h
 by_cases c4:aR p=4∨aR q=4
 ·rw[if_pos c4,qY] at h;cases h
 rw[if_neg c4] at h
 by_cases ci:rg p=9218868437227405312
 ·rw[if_pos ci] at h
  by_cases cj:rg q=9218868437227405312∧decide (p<0)≠decide (q<0)
  ·rw[if_pos cj,qY] at h;cases h
  ·rw[if_neg cj] at h;exact absurd h (wt hp ci)
 rw[if_neg ci] at h
 by_cases cj:rg q=9218868437227405312
 ·rw[if_pos cj] at h;exact absurd h (wt hq cj)
 exact⟨lz hp (fun c=>c4 (.inl c)) ci,lz hq (fun c=>c4 (.inr c)) cj⟩
theorem dW (g:Bool):ax (aP g 0)∧aF (aP g 0)=true∧iV (aP g 0)=0:=by
 refine⟨(fi (by decide) (by decide)).1,?_,?_⟩
 ·rw[kD (by decide) (by decide)];decide
 ·rw[jT (by decide) (by decide)]
  show sg g (V Ieee.double 0:Int)=0
  rw[kX]
  exact ed g
structure qZ (S p:Int):Prop where
 rn:ax p
 nr:aF p=true->Nr S (iV p)
 fin:(S.natAbs:Int)<=kC->aF p=true
theorem rc (g:Bool):qZ 0 (aP g 0):=by
 obtain⟨a,b,c⟩:=dW g
 exact⟨a,fun _=>by rw[c];exact Aq,fun _=>b⟩
theorem rf {S:Int} (h:S≠0):qZ S (de (S*pw (-1074))):=by
 obtain⟨a,b,c⟩:=Ar h
 exact⟨a,b,c⟩
theorem yu {a b T u Z k w:Int} (hz:0<Z) (e2:w*w=u*Z) (e3:w=u*k) (hT:k*T=a*b):a*w*(b*w)/Z=T*w:=by
 have e1:a*w*(b*w)=a*b*(w*w):=by
  rw[Int.mul_assoc,Int.mul_assoc];congr 1;rw[<- Int.mul_assoc,<- Int.mul_assoc,Int.mul_comm w b]
 rw[e1,e2,<- hT]
 have:k*T*(u*Z)=T*w*Z:=by
  rw[e3,Int.mul_comm k T,Int.mul_assoc,Int.mul_assoc,<- Int.mul_assoc k u Z,Int.mul_comm k u]
 rw[this]
 exact Int.mul_ediv_cancel _ (by omega)
theorem wu {T w:Int} (g:Bool) (hw:0<w) (d:sg g (T*w)=0):T=0:=by
 have:=iF d
 rcases Int.mul_eq_zero.1 this with g|g<;>omega
theorem At {T w:Int} (hw:0<w) (d:T*w=0):T=0:=by
 rcases Int.mul_eq_zero.1 d with g|g<;>omega
theorem zh {T w:Int} (g:Bool) (h:T=0):sg g (T*w)=0:=by rw[h,Int.zero_mul];exact ed g
theorem wv (g:Bool) (A:Int):sg g (sg g A)=A:=by cases g<;>simp[sg]
theorem gZ {p q:Int} (hp:ax p) (hq:ax q) (pp:aF p=true) (pq:aF q=true):qZ (iV p+iV q) (aE p q):=by
 obtain⟨a1,a2⟩:=dh hp pp
 obtain⟨b1,b2⟩:=dh hq pq
 have e:aE p q=if iV p+iV q=0 then aP (decide (p<0)&&decide (q<0)) 0 else de ((iV p+iV q)*pw (-1074)):=by
  unfold aE
  rw[if_neg (fun c=>c.elim a1 b1),if_neg a2,if_neg b2,cd hp pp,cd hq pq,<- Int.add_mul]
  have hq:=ct (-1074)
  by_cases c:iV p+iV q=0
  ·rw[if_pos c,if_pos (by rw[c,Int.zero_mul])]
  ·rw[if_neg c,if_neg (fun d=>c (At hq d))]
 rw[e]
 by_cases c:iV p+iV q=0
 ·rw[if_pos c,c];exact rc _
 ·rw[if_neg c];exact rf c
theorem ri {p q T:Int} (hp:ax p) (hq:ax q) (pp:aF p=true) (pq:aF q=true) (hT:2^1074*T=iV p*iV q):qZ T (av p q):=by
 obtain⟨a1,a2⟩:=dh hp pp
 obtain⟨b1,b2⟩:=dh hq pq
 have hw:=ct (-1074)
 have hs:am p*am q/2^4194304=T*pw (-1074):=by
  rw[cd hp pp,cd hq pq]
  have e2:=jO (a:=-1074) (b:=-1074) (by decide) (by decide)
  rw[show(-1074 + -1074:Int)=-2148 by decide] at e2
  have e3:=ew (e:=-2148) (by decide) 1074
  rw[show(-2148+((1074:Nat):Int))=-1074 by decide] at e3
  exact yu (aJ 4194304) e2 e3 hT
 have e:av p q=if T=0 then aP (fE p q) 0 else de (T*pw (-1074)):=by
  unfold av dH
  rw[if_neg (fun c=>c.elim a1 b1),if_neg (fun c=>c.elim a2 b2),hs]
  by_cases c:T=0
  ·rw[if_pos c,if_pos (zh _ c)]
  ·rw[if_neg c,if_neg (fun d=>c (wu _ hw d)),wv]
 rw[e]
 by_cases c:T=0
 ·rw[if_pos c,c];exact rc _
 ·rw[if_neg c];exact rf c
theorem gz {q:Int} (hq:ax q) (h:aF q=true):ax (neg q)∧aF (neg q)=true∧iV (neg q)=-iV q:=by
 obtain⟨b1,b2⟩:=dh hq h
 have h1:=(dU hq).1 h
 have e:neg q=aP (!decide (q<0)) (rg q):=by
  unfold neg aP rg
  rw[if_neg b1]
  by_cases c:q<0
  ·rw[if_pos c,if_pos c,decide_eq_true c];rfl
  ·rw[if_neg c,if_neg c,decide_eq_false c];rfl
 have h0:0<=rg q:=by unfold rg;unfold ax at hq;split<;>omega
 obtain⟨c1,c2,c3⟩:=fi (ng:=!decide (q<0)) h0 (by omega)
 refine⟨by rw[e];exact c1,by rw[e,kD h0 (by omega)];exact decide_eq_true h1,?_⟩
 rw[e,jT h0 (by omega)]
 unfold iV
 rw[qk]
theorem Au {q:Int} (hq:ax q) (h:aF (neg q)=true):aF q=true:=by
 unfold neg at h
 by_cases c:aR q=4
 ·rw[if_pos c,qY] at h;cases h
 ·by_cases ci:rg q=9218868437227405312
  ·exfalso
   rw[if_neg c] at h
   have hr:ax (if q<0 then q+9223372036854775808 else q-9223372036854775808):=by unfold ax at *;split<;>omega
   have:=(dU hr).1 h
   unfold rg at this ci
   split at this<;>split at ci<;>split at this<;>omega
  ·exact lz hq c ci
theorem eg {q:Int} (hq:ax q):ax (neg q):=by
 unfold neg ax at *
 split
 ·omega
 ·split<;>omega
theorem fJ {p q:Int} (hp:ax p) (hq:ax q) (pp:aF p=true) (pq:aF q=true):qZ (iV p-iV q) (aE p (neg q)):=by
 obtain⟨a,b,c⟩:=gz hq pq
 have:=gZ hp a pp b
 rw[c] at this
 exact this
theorem kE {p q:Int} (hp:ax p) (hq:ax q) (h:aF (aE p (neg q))=true):aF p=true∧aF q=true:=by
 obtain⟨a,b⟩:=pe hp (eg hq) h
 exact⟨a,Au hq b⟩
theorem bk {p q:Int} (hp:ax p) (hq:ax q):ax (aE p q):=by
 by_cases h:aF p=true∧aF q=true
 ·exact(gZ hp hq h.1 h.2).rn
 ·unfold aE
  by_cases c4:aR p=4∨aR q=4
  ·rw[if_pos c4];exact lV
  rw[if_neg c4]
  by_cases ci:rg p=9218868437227405312
  ·rw[if_pos ci];split
   ·exact lV
   ·exact hp
  rw[if_neg ci]
  by_cases cj:rg q=9218868437227405312
  ·rw[if_pos cj];exact hq
  exact absurd ⟨lz hp (fun c=>c4 (.inl c)) ci,lz hq (fun c=>c4 (.inr c)) cj⟩ h
theorem aH {p q:Int} (hp:ax p) (hq:ax q):ax (av p q):=by
 unfold av
 split
 ·exact lV
 ·split
  ·split
   ·exact lV
   ·exact(fi (by decide) (by decide)).1
  ·split
   ·exact(fi (by decide) (by decide)).1
   ·rename_i h
    exact(gy (fun c=>h (iF c))).1
def sV (p q:Int):Int:=aE (aE p q) (neg p)
def sL (p q:Int):Int:=aE (aE p (neg (aE (aE p q) (neg (sV p q))))) (aE q (neg (sV p q)))
theorem lW (p:Int):Fl (iV p):=by
 unfold iV
 cases decide (p<0)
 ·exact oq _
 ·exact(oq _).neg
theorem jU (p:Int):((iV p).natAbs:Int)=(V Ieee.double (rg p).toNat:Int):=by
 unfold iV sg
 cases decide (p<0)
 ·simp
 ·simp
theorem yw {p q:Int} (hp:ax p) (hq:ax q) (h:aF (sL p q)=true):(aF p=true∧aF q=true)∧aF (aE p q)=true∧iV (aE p q)+iV (sL p q)=iV p+iV q:=by
 have rh:=bk hp hq
 have rv:ax (sV p q):=bk rh (eg hp)
 have rU:=bk rh (eg rv)
 have rX:=bk hp (eg rU)
 have rY:=bk hq (eg rv)
 obtain⟨pX,pY⟩:=pe rX rY h
 obtain⟨pp,pU⟩:=kE hp rU pX
 obtain⟨pq,pv⟩:=kE hq rv pY
 obtain⟨ph,_⟩:=kE rh hp pv
 have e:=Ap (lW p) (lW q) ((gZ hp hq pp pq).nr ph) ((fJ rh hp ph pp).nr pv) ((fJ rh rv ph pv).nr pU) ((fJ hp rU pp pU).nr pX) ((fJ hq rv pq pv).nr pY) ((gZ rX rY pX pY).nr h)
 exact⟨⟨pp,pq⟩,ph,by unfold sL;omega⟩
theorem hG {p q:Int} (hp:ax p) (hq:ax q) (pp:aF p=true) (pq:aF q=true):aE p q=if am p+am q=0 then aP (decide (p<0)&&decide (q<0)) 0 else de (am p+am q):=by
 obtain⟨a1,a2⟩:=dh hp pp
 obtain⟨b1,b2⟩:=dh hq pq
 unfold aE
 rw[if_neg (fun c=>c.elim a1 b1),if_neg a2,if_neg b2]
theorem pf {p q:Int} (hp:ax p) (hq:ax q) (pp:aF p=true) (pq:aF q=true):aE p q=aE q p:=by
 rw[hG hp hq pp pq,hG hq hp pq pp,Int.add_comm (am q),Bool.and_comm (decide (q<0))]
end Go.Proofs.YtcklaogdjpbagaaGreatDoor
/-
 Mathematics of whole numbers: a float's whole units,ints as floats,the order of floats in the model.
-/
namespace Go.Proofs.YtcklaogdjpbagaaGreatDoor.M
open Go Go.Proofs.Tryz Ieee
end Go.Proofs.YtcklaogdjpbagaaGreatDoor.M
namespace Go.Proofs.YtcklaogdjpbagaaGreatDoor
open Go Go.Proofs.Tryz Go.RowKit Go.Proofs.YtcklaogdjpbagaaGreatDoor.M Ieee
end Go.Proofs.YtcklaogdjpbagaaGreatDoor
namespace Go.Proofs.YtcklaogdjpbagaaGreatDoor
open Go Go.Proofs.Tryz Go.RowKit Go.Proofs.YtcklaogdjpbagaaGreatDoor.M Ieee
theorem yx {p:Int} (hp:M.ax p) (h4:¬ aR p=4):decide (M.neg p<0)=!decide (p<0)∧rg (M.neg p)=rg p∧¬ aR (M.neg p)=4:=by
 have h0:0<=rg p∧rg p<9223372036854775808:=by unfold rg;unfold M.ax at hp;split<;>omega
 have e:rg (M.neg p)=rg p∧decide (M.neg p<0)=!decide (p<0):=by
  unfold M.neg rg
  rw[if_neg h4]
  unfold M.ax at hp
  by_cases c:p<0
  ·rw[if_pos c,decide_eq_true c,if_neg (by omega)]
   exact⟨by rw[if_pos c],decide_eq_false (by omega)⟩
  ·rw[if_neg c,decide_eq_false c,if_pos (by omega)]
   exact⟨by rw[if_neg c];omega,decide_eq_true (by omega)⟩
 refine⟨e.2,e.1,fun c=>?_⟩
 have:=(ek (eg hp)).1.1 c
 rw[e.1] at this
 exact h4 ((ek hp).1.2 this)
end Go.Proofs.YtcklaogdjpbagaaGreatDoor
/-
 Package eft: math.Abs,FastTwoSum,reachable,TwoProd,by their contracts.
-/
namespace Go.Proofs.YtcklaogdjpbagaaGreatDoor
open Go Go.Proofs.Tryz Go.RowKit Go.Proofs.YtcklaogdjpbagaaGreatDoor.M Ieee
end Go.Proofs.YtcklaogdjpbagaaGreatDoor
namespace Go.Proofs.YtcklaogdjpbagaaGreatDoor
open Go Go.Proofs.Tryz Go.RowKit Go.Proofs.YtcklaogdjpbagaaGreatDoor.M Ieee
def Cu (a b:Int):Bool:=decide (bL a=0)||decide (bL b=0)||decide (-1074<=bM a+jz (bL a)+bM b+jz (bL b))
end Go.Proofs.YtcklaogdjpbagaaGreatDoor
namespace Go.Proofs.YtcklaogdjpbagaaGreatDoor
open Go Go.Proofs.Tryz Go.RowKit Go.Proofs.YtcklaogdjpbagaaGreatDoor.M Ieee
theorem jV {p:Int} (hp:ax p) (h:aF p=true):((iV p).natAbs:Int)=bL p*2^(bM p+1074).toNat:=by
 have h0:=(gm h).1
 rw[jU,AX hp h,oo,Int.toNat_of_nonneg h0,Int.mul_comm]
end Go.Proofs.YtcklaogdjpbagaaGreatDoor
namespace Go.Proofs.YtcklaogdjpbagaaGreatDoor
open Go Go.Proofs.Tryz Go.RowKit Go.Proofs.YtcklaogdjpbagaaGreatDoor.M
end Go.Proofs.YtcklaogdjpbagaaGreatDoor
namespace Go.Proofs.YtcklaogdjpbagaaGreatDoor
open Go Go.Proofs.Tryz Go.RowKit Go.Proofs.YtcklaogdjpbagaaGreatDoor.M Ieee
end Go.Proofs.YtcklaogdjpbagaaGreatDoor
namespace Go.Proofs.YtcklaogdjpbagaaGreatDoor.M
open Go Go.Proofs.Tryz Ieee
theorem bX {b:Int} (h:ax b):ax (rg b)∧0<=rg b:=by unfold ax rg at *;split<;>omega
theorem kF {b:Int} (h:ax b):aR (rg b)=aR b:=by
 unfold ax at h;unfold aR rg bZ cx
 by_cases h0:b<0
 ·rw[if_pos h0,show(b+9223372036854775808)/4503599627370496 % 2048=b/4503599627370496 % 2048 from by omega,show(b+9223372036854775808) % 4503599627370496=b % 4503599627370496 from by omega]
 ·rw[if_neg h0]
theorem DF {b:Int} (h:ax b):wd b % 9223372036854775808=wd (rg b):=by unfold ax rg wd at *;split<;>omega
theorem ig {b:Int} (h:0<=b):bl b=b:=by unfold bl;rw[if_neg (by omega)]
theorem Bu (b:Int):wd b<18446744073709551616:=by unfold wd;omega
theorem Cv {b:Int} (h:ax b):(bits .andNot .u64 (wd b) 9223372036854775808).toNat=wd (rg b):=by
 have e:=DF h
 have l:=Bu b
 rw[<- e]
 show(IntKind.u64.wrap (((BitVec.ofInt 64 (wd b:Int) &&& ~~~ BitVec.ofInt 64 9223372036854775808).toNat:Nat):Int)).toNat=_
 rw[BitVec.toNat_and,BitVec.toNat_not,dE,dE,show(2^64-1-((9223372036854775808:Int) % 18446744073709551616).toNat)=2^63-1 from by decide,Nat.and_two_pow_sub_one_eq_mod,IntKind.wrap_u64]
 omega
theorem cv {b:Int} (h:aF b=true):¬ aR b=4:=by
 have:=qu h
 unfold aR;rw[if_neg this];split
 ·split<;>omega
 ·omega
theorem mK {a b:Int} (ha:ax a) (hb:ax b) (h1:¬ aR a=4) (h2:¬ aR b=4) (h:bl a<bl b):FloatKind.f64.format.order (wd a) (wd b)=some .lt:=by rw[jP ha hb h1 h2,ey h]
theorem mL {a b:Int} (ha:ax a) (hb:ax b) (h1:¬ aR a=4) (h2:¬ aR b=4) (h:bl b<bl a):FloatKind.f64.format.order (wd a) (wd b)=some .gt:=by rw[jP ha hb h1 h2,eA h]
theorem lA {a b:Int} (ha:ax a) (hb:ax b) (h1:¬ aR a=4) (h2:¬ aR b=4) (h:bl a=bl b):FloatKind.f64.format.order (wd a) (wd b)=some .eq:=by rw[jP ha hb h1 h2,gH h]
def bv (b:Int):Bool:=decide (rg b=0)||(decide (3931642474694443008<=rg b)&&decide (rg b<5282722362905591808))
theorem mM {b:Int} (h:ax b):bv b=(decide (rg b=0)||(decide (873<=bZ b)&&decide (bZ b<1173))):=by
 obtain⟨h0,h1⟩:=fh h
 have h2:0<=cx b∧cx b<4503599627370496:=by unfold cx;omega
 unfold bv
 congr 1
 congr 1
 ·apply decide_eq_decide.2;omega
 ·apply decide_eq_decide.2;omega
theorem ot {b:Int} (h:ax b):aF b=decide (rg b<=9218868437227405311):=by
 obtain⟨h0,h1⟩:=fh h
 have h2:0<=cx b∧cx b<4503599627370496:=by unfold cx;omega
 have h3:0<=bZ b∧bZ b<2048:=by unfold bZ;omega
 unfold aF
 by_cases e:bZ b=2047
 ·simp[e];omega
 ·simp[e];omega
end Go.Proofs.YtcklaogdjpbagaaGreatDoor.M
namespace Go.Proofs.YtcklaogdjpbagaaGreatDoor
open Go Go.Proofs.Tryz Go.RowKit Go.Proofs.YtcklaogdjpbagaaGreatDoor.M
theorem cQ {b:Int} (hb:ax b) (w:World) :
  Calls prog 43 #[.float .f64 (wd b)] w fun e w'=>e=.returned (.float .f64 (wd (rg b)))∧w'=w:=by
 have h1:=uo
 have h2:=ns
 go_enter func43,ntmps43
 go_wp2
 go_ret
 exact⟨oS (Cv hb),rfl⟩
theorem rj {b:Int} (hb:ax b) (w:World) :
  Calls prog 118 #[.float .f64 (wd b)] w fun e w'=>e=.returned (.bool (aF b))∧w'=w:=by
 have n0:=Ds hb
 obtain⟨r1,r2⟩:=bX hb
 by_cases h4:aR b=4
 ·have n1:(FloatKind.f64.format.order (wd b) (wd b) != some .eq)=true:=by rw[n0];simp[h4]
  have hp:aF b=false:=by
   cases h:aF b
   ·rfl
   ·exact absurd h4 (cv h)
  clear n0
  go_enter func118,ntmps118
  go_wp2
  go_ret
  exact⟨cC hp.symm,rfl⟩
 ·have n1:(FloatKind.f64.format.order (wd b) (wd b) != some .eq)=false:=by rw[n0];simp[h4]
  have c1:¬ aR (rg b)=4:=by rw[kF hb];exact h4
  have c2:¬ aR 9218868437227405311=4:=by decide
  have r3:ax 9218868437227405311:=by unfold ax;omega
  have k1:=ig r2
  have k2:bl 9218868437227405311=9218868437227405311:=by decide
  have e2:wd 9218868437227405311=9218868437227405311:=by decide
  have hp:=ot hb
  clear n0
  rcases Int.lt_trichotomy (rg b) 9218868437227405311 with h|h|h
  ·have o:=mK r1 r3 c1 c2 (by rw[k1,k2];exact h)
   rw[e2] at o
   have hp':aF b=true:=by rw[hp];simp;omega
   clear hp
   go_enter func118,ntmps118
   go_wp2_with (go_at_call 43;refine(cQ hb _).mono ?_;rintro _ _ ⟨rfl,rfl⟩)
   go_ret
   exact⟨cC hp'.symm,rfl⟩
  ·have o:=lA r1 r3 c1 c2 (by rw[k1,k2];exact h)
   rw[e2] at o
   have hp':aF b=true:=by rw[hp];simp;omega
   clear hp
   go_enter func118,ntmps118
   go_wp2_with (go_at_call 43;refine(cQ hb _).mono ?_;rintro _ _ ⟨rfl,rfl⟩)
   go_ret
   exact⟨cC hp'.symm,rfl⟩
  ·have o:=mL r1 r3 c1 c2 (by rw[k1,k2];exact h)
   rw[e2] at o
   have hp':aF b=false:=by rw[hp];simp;omega
   clear hp
   go_enter func118,ntmps118
   go_wp2_with (go_at_call 43;refine(cQ hb _).mono ?_;rintro _ _ ⟨rfl,rfl⟩)
   go_ret
   exact⟨cC hp'.symm,rfl⟩
theorem ww {b:Int} (hb:ax b) (w:World) :
    Calls prog 72 #[.int .i64 b] w fun e w'=>e=.returned (.bool (bv b))∧w'=w:=by
  obtain⟨r1,r2⟩:=bX hb
  have k1:=ig r2
  have z1:wd 0=0:=by decide
  have z2:wd 3931642474694443008=3931642474694443008:=by decide
  have z3:wd 5282722362905591808=5282722362905591808:=by decide
  have s1:=mY r1 (show ax 0 by unfold ax;omega)
  have s2:=ud r1 (show ax 5282722362905591808 by unfold ax;omega)
  have o0:=@eM
  by_cases h4:aR (rg b)=4
  · have o1:=eM r1 (show ax 0 by unfold ax;omega) (.inl h4)
    have o2:=eM (show ax 3931642474694443008 by unfold ax;omega) r1 (.inr h4)
    rw[z1] at o1
    rw[z2] at o2
    have ht:bv b=false:=by
      have h5:aR b=4:=by rw[<- kF hb];exact h4
      have h6:bZ b=2047:=by
        unfold aR at h5;split at h5
        · assumption
        · split at h5
          · split at h5<;>omega
          · omega
      have:=fh hb
      have h7:0<=cx b∧cx b<4503599627370496:=by unfold cx;omega
      rw[mM hb,h6]
      simp
      omega
    clear s1 s2 o0
    go_enter func72,ntmps72
    go_wp2_with (first
      | (go_at_call 74;refine(dN _ _).mono ?_;rintro _ _ ⟨rfl,rfl⟩)
      | (go_at_call 43; refine (cQ hb _).mono ?_; rintro _ _ ⟨rfl,rfl⟩))
    go_ret
    exact⟨cC ht.symm,rfl⟩
  · have c0:¬ aR 0=4:=by decide
    have c2:¬ aR 3931642474694443008=4:=by decide
    have c3:¬ aR 5282722362905591808=4:=by decide
    have y0:ax 0:=by unfold ax;omega
    have y2:ax 3931642474694443008:=by unfold ax;omega
    have y3:ax 5282722362905591808:=by unfold ax;omega
    have m0:bl 0=0:=by decide
    have m2:bl 3931642474694443008=3931642474694443008:=by decide
    have m3:bl 5282722362905591808=5282722362905591808:=by decide
    clear s1 s2 o0
    by_cases e0:rg b=0
    · have o1:=lA r1 y0 h4 c0 (by rw[k1,m0];exact e0)
      rw[z1] at o1
      have ht:bv b=true:=by unfold bv;simp[e0]
      go_enter func72,ntmps72
      go_wp2_with (first
        | (go_at_call 74;refine(dN _ _).mono ?_;rintro _ _ ⟨rfl,rfl⟩)
        | (go_at_call 43; refine (cQ hb _).mono ?_; rintro _ _ ⟨rfl,rfl⟩))
      go_ret
      exact⟨cC ht.symm,rfl⟩
    have o1:=mL r1 y0 h4 c0 (by rw[k1,m0];omega)
    rw[z1] at o1
    by_cases e1:rg b<3931642474694443008
    · have o2:=mL y2 r1 c2 h4 (by rw[k1,m2];exact e1)
      rw[z2] at o2
      have ht:bv b=false:=by unfold bv;simp[e0];omega
      go_enter func72,ntmps72
      go_wp2_with (first
        | (go_at_call 74;refine(dN _ _).mono ?_;rintro _ _ ⟨rfl,rfl⟩)
        | (go_at_call 43; refine (cQ hb _).mono ?_; rintro _ _ ⟨rfl,rfl⟩))
      go_ret
      exact⟨cC ht.symm,rfl⟩
    by_cases e2:rg b=3931642474694443008
    · have o2:=lA y2 r1 c2 h4 (by rw[k1,m2];exact e2.symm)
      have o3:=mK r1 y3 h4 c3 (by rw[k1,m3];omega)
      rw[z2] at o2
      rw[z3] at o3
      have ht:bv b=true:=by unfold bv;simp[e2]
      go_enter func72,ntmps72
      go_wp2_with (first
        | (go_at_call 74;refine(dN _ _).mono ?_;rintro _ _ ⟨rfl,rfl⟩)
        | (go_at_call 43; refine (cQ hb _).mono ?_; rintro _ _ ⟨rfl,rfl⟩))
      go_ret
      exact⟨cC ht.symm,rfl⟩
    have o2:=mK y2 r1 c2 h4 (by rw[k1,m2];omega)
    rw[z2] at o2
    rcases Int.lt_trichotomy (rg b) 5282722362905591808 with h|h|h
    · have o3:=mK r1 y3 h4 c3 (by rw[k1,m3];omega)
      rw[z3] at o3
      have ht:bv b=true:=by unfold bv;simp[e0];omega
      go_enter func72,ntmps72
      go_wp2_with (first
        | (go_at_call 74;refine(dN _ _).mono ?_;rintro _ _ ⟨rfl,rfl⟩)
        | (go_at_call 43; refine (cQ hb _).mono ?_; rintro _ _ ⟨rfl,rfl⟩))
      go_ret
      exact⟨cC ht.symm,rfl⟩
    · have o3:=lA r1 y3 h4 c3 (by rw[k1,m3];omega)
      rw[z3] at o3
      have ht:bv b=false:=by unfold bv;simp[e0];omega
      go_enter func72,ntmps72
      go_wp2_with (first
        | (go_at_call 74;refine(dN _ _).mono ?_;rintro _ _ ⟨rfl,rfl⟩)
        | (go_at_call 43; refine (cQ hb _).mono ?_; rintro _ _ ⟨rfl,rfl⟩))
      go_ret
      exact⟨cC ht.symm,rfl⟩
    · have o3:=mL r1 y3 h4 c3 (by rw[k1,m3];omega)
      rw[z3] at o3
      have ht:bv b=false:=by unfold bv;simp[e0];omega
      go_enter func72,ntmps72
      go_wp2_with (first
        | (go_at_call 74;refine(dN _ _).mono ?_;rintro _ _ ⟨rfl,rfl⟩)
        | (go_at_call 43; refine (cQ hb _).mono ?_; rintro _ _ ⟨rfl,rfl⟩))
      go_ret
      exact⟨cC ht.symm,rfl⟩
def lB (b:Bool):Int:=if b then 0 else 10
def nH (d:Nat->Int) (n:Nat):Bool:=decide (∀ i,i<n->aF (d i)=true)
theorem wy (ao:Option Addr) (n cap:Nat) (d:Nat->Int) (w:World) (h:aS w ao n cap d) (hd:∀ i,i<n->ax (d i)) :
    Calls prog 99 #[.slice ao n cap] w fun e w'=>e=.returned (.int .i64 (lB (nH d n)))∧w'=w:=by
  have hl:=h.le
  have hm:=h.max
  go_enter func99,ntmps99
  go_wp2_with fail
  go_loop [7] (fun i=>∃ k:Nat,k<=n∧i=.int .i64 k∧Hid (∀ j,j<k->aF (d j)=true)) (fun i=>n-(intOf i).toNat)
  case atStart=>exact⟨0,Nat.zero_le _,rfl,fun j hj=>by omega⟩
  case round=>
    obtain⟨k,hk,rfl,HO⟩:=hrel
    by_cases hlt:k<n
    · obtain⟨b,off,rfl,hb,hc⟩:=h.spot (by omega)
      have c0:=hc k hlt
      have hr:=hd k hlt
      by_cases hok:aF (d k)=true
      · go_wp2_with (first
          | (go_at_call 74;refine(dN _ _).mono ?_;rintro _ _ ⟨rfl,rfl⟩)
          | (go_at_call 118; refine (rj hr _).mono ?_; rintro _ _ ⟨rfl,rfl⟩))
        go_round
        case rel=>exact ⟨k+1,by omega,by go_num,fun j hj=>by
            by_cases e:j=k
            · subst e;exact hok
            · exact HO.out j (by omega)⟩
        case measure=>simp[intOf];omega
      · have hok':aF (d k)=false:=by simpa using hok
        go_wp2_with (first
          | (go_at_call 74;refine(dN _ _).mono ?_;rintro _ _ ⟨rfl,rfl⟩)
          | (go_at_call 118; refine (rj hr _).mono ?_; rintro _ _ ⟨rfl,rfl⟩))
        go_ret
        exact ⟨eD (by
          unfold lB
          rw[if_neg]
          intro hx
          exact hok (of_decide_eq_true hx k hlt)),rfl⟩
    · obtain rfl:k=n:=by omega
      go_wp2
      go_ret
      exact⟨eD (by unfold lB;rw[if_pos (show nH d k=true from decide_eq_true HO.out)]),rfl⟩
theorem Av (x y z:Int):nH (fun i=>if i=0 then x else if i=1 then y else z) 3=(aF x&&aF y&&aF z):=by
 unfold nH
 rw[Bool.eq_iff_iff]
 simp
 constructor
 ·intro h
  exact⟨⟨by simpa using h 0 (by omega),by simpa using h 1 (by omega)⟩,by simpa using h 2 (by omega)⟩
 ·rintro⟨⟨h1,h2⟩,h3⟩ i hi
  split
  ·exact h1
  ·split
   ·exact h2
   ·exact h3
theorem Bv (w:World) (o:Obj) (x y z:Int) (t:TypeId):aS ((w.alloc o).alloc (.cells #[.int .i64 x,.int .i64 y,.int .i64 z] t)) (some ⟨w.heap.size+1,0,none⟩) 3 3 (fun i=>if i=0 then x else if i=1 then y else z) :=
  ⟨by omega,by omega,(fun h=>by cases h),fun _=>⟨_,_,rfl,by simp,fun i hi=>by
    have e:((w.alloc o).alloc (.cells #[.int .i64 x,.int .i64 y,.int .i64 z] t)).heap[w.heap.size+1]?=some (.cells #[.int .i64 x,.int .i64 y,.int .i64 z] t):=bH w o _
    unfold World.cell?
    rw[show((⟨w.heap.size+1,0+i,none⟩:Addr)).block=w.heap.size+1 from rfl,e]
    match i,hi with
    | 0,_=>rfl
    | 1,_=>rfl
    | 2,_=>rfl⟩⟩
theorem nI {x y z:Int} (hx:ax x) (hy:ax y) (hz:ax z) (w:World) :
  Calls prog 70 #[.agg #[.int .i64 x,.int .i64 y,.int .i64 z]] w fun e w'=>e=.returned (.int .i64 (lB (aF x&&aF y&&aF z)))∧Below w.heap.size w w':=by
 have hr:=Bv w (.cells #[.int .i64 x,.int .i64 y,.int .i64 z] 23) x y z 3
 have e2:=Av x y z
 go_enter func70,ntmps70
 go_wp2_with fail
 refine(wy _ _ _ _ _ hr (fun i _=>by show ax (if i=0 then x else if i=1 then y else z);split;assumption;split<;>assumption)).mono ?_
 rintro _ _ ⟨rfl,rfl⟩
 go_wp2
 go_ret
 exact⟨eD (by rw[<- e2]),aL _ _ _⟩
end Go.Proofs.YtcklaogdjpbagaaGreatDoor
namespace Go.Proofs.YtcklaogdjpbagaaGreatDoor
open Go Go.Proofs.Tryz Go.RowKit Go.Proofs.YtcklaogdjpbagaaGreatDoor.M Ieee
end Go.Proofs.YtcklaogdjpbagaaGreatDoor
namespace Go.Proofs.YtcklaogdjpbagaaGreatDoor
open Go Go.Proofs.Tryz Go.RowKit Go.Proofs.YtcklaogdjpbagaaGreatDoor.M
end Go.Proofs.YtcklaogdjpbagaaGreatDoor
namespace Go.Proofs.YtcklaogdjpbagaaGreatDoor
open Go Go.Proofs.Tryz Go.RowKit Go.Proofs.YtcklaogdjpbagaaGreatDoor.M Ieee
theorem DG {a b h M:Int} (h1:((a.natAbs:Int)+b.natAbs)<=M):((a+b).natAbs:Int)<=M:=by omega
theorem DH {a b h M:Int} (ha:2*(a.natAbs:Int)<=M) (hb:2*(b.natAbs:Int)<=M) (e1:(h-(a+b)).natAbs<=(a-(a+b)).natAbs):((h-a).natAbs:Int)<=M:=by omega
theorem DI {a b h v M:Int} (ha:2*(a.natAbs:Int)<=M) (e2:(h-(a+b)).natAbs<=(b-(a+b)).natAbs) (e3:(v-(h-a)).natAbs<=(b-(h-a)).natAbs):((h-v).natAbs:Int)<=M:=by omega
theorem DJ {a b h v u M:Int} (ha:2*(a.natAbs:Int)<=M) (e2:(h-(a+b)).natAbs<=(b-(a+b)).natAbs) (e3:(v-(h-a)).natAbs<=(b-(h-a)).natAbs) (e4:(u-(h-v)).natAbs<=(a-(h-v)).natAbs):((a-u).natAbs:Int)<=M∧(a-u).natAbs<=2*(h-(a+b)).natAbs:=by omega
theorem DK {a b h v M:Int} (hb:2*(b.natAbs:Int)<=M) (e1:(h-(a+b)).natAbs<=(a-(a+b)).natAbs) (e3:(v-(h-a)).natAbs<=(b-(h-a)).natAbs):((b-v).natAbs:Int)<=M∧(b-v).natAbs<=2*(h-(a+b)).natAbs:=by omega
theorem DM {S h x y p q M:Int} (hM:(S.natAbs:Int)<=M) (r:1000*(h-S).natAbs<=S.natAbs) (g1:x.natAbs<=2*(h-S).natAbs) (g2:y.natAbs<=2*(h-S).natAbs) (n1:(p-x).natAbs<=(0-x).natAbs) (n2:(q-y).natAbs<=(0-y).natAbs):((p+q).natAbs:Int)<=M:=by omega
theorem ou {p q:Int} (hp:M.ax p) (hq:M.ax q) (pp:aF p=true) (pq:aF q=true) (h1:2*((iV p).natAbs:Int)<=kC) (h2:2*((iV q).natAbs:Int)<=kC):aF (aE p q)=true∧aF (sL p q)=true:=by
 have rh:=bk hp hq
 have rv:M.ax (sV p q):=bk rh (eg hp)
 have rU:=bk rh (eg rv)
 have rX:=bk hp (eg rU)
 have rY:=bk hq (eg rv)
 have Sh:=gZ hp hq pp pq
 have hM:=DG (h:=0) (a:=iV p) (b:=iV q) (M:=kC) (by omega)
 have ph:=Sh.fin hM
 have nh:=Sh.nr ph
 have e1:=nh.2 _ (lW p)
 have e2:=nh.2 _ (lW q)
 have Sv:=fJ rh hp ph pp
 have pv:=Sv.fin (DH h1 h2 e1)
 have nv:=Sv.nr pv
 have e3:=nv.2 _ (lW q)
 have SU:=fJ rh rv ph pv
 have pU:=SU.fin (DI h1 e2 e3)
 have e4:=(SU.nr pU).2 _ (lW p)
 have SX:=fJ hp rU pp pU
 obtain⟨g1,g2⟩:=DJ h1 e2 e3 e4
 have pX:=SX.fin g1
 have SY:=fJ hq rv pq pv
 obtain⟨g3,g4⟩:=DK h2 e1 e3
 have pY:=SY.fin g3
 exact⟨ph,(gZ rX rY pX pY).fin (DM hM (wp nh) g2 g4 ((SX.nr pX).2 _ iQ) ((SY.nr pY).2 _ iQ))⟩
end Go.Proofs.YtcklaogdjpbagaaGreatDoor
namespace Go.Proofs.YtcklaogdjpbagaaGreatDoor
open Go Go.Proofs.Tryz Go.RowKit Go.Proofs.YtcklaogdjpbagaaGreatDoor.M
theorem uv {b:Int} (hb:ax b):aR b=0↔rg b=0:=by
 have h1:=kF hb
 rw[<- h1]
 constructor
 ·intro h
  have hr:=(bX hb).1
  have h0:0<=rg b:=(bX hb).2
  generalize rg b=r at *
  unfold ax at hr
  unfold aR bZ cx at h
  split at h
  ·split at h<;>omega
  ·split at h
   ·split at h
    ·omega
    ·omega
   ·omega
 ·intro h;rw[h];decide
theorem wA {b:Int} (hb:ax b) (h:rg b=0):iV b=0:=by
 have:=jU b
 rw[h] at this
 have h2:(V Ieee.double (0:Int).toNat:Int)=0:=by decide +kernel
 omega
theorem tH {p q:Int} (hp:ax p) (hq:ax q) (h:aF (sL p q)=true):Nr (iV p+iV q) (iV (aE p q)):=by
 obtain⟨⟨pp,pq⟩,ps,e⟩:=yw hp hq h
 exact(gZ hp hq pp pq).nr ps
theorem hH:(2:Int)^2097<=kC:=by
 have h:(2:Int)^2097<=(V Ieee.double 9218868437227405311:Int):=by decide +kernel
 exact h
theorem Cw {b c:Nat} {x:Int} (h:(x.natAbs:Int)<=2^b) (hbc:b<=c):(x.natAbs:Int)<=2^c:=Int.le_trans h (mJ hbc)
end Go.Proofs.YtcklaogdjpbagaaGreatDoor
namespace Go.Proofs.YtcklaogdjpbagaaGreatDoor
open Go Go.Proofs.Tryz Go.RowKit Go.Proofs.YtcklaogdjpbagaaGreatDoor.M Ieee
end Go.Proofs.YtcklaogdjpbagaaGreatDoor
namespace Go.Proofs.YtcklaogdjpbagaaGreatDoor
open Go Go.Proofs.Tryz Go.RowKit Go.Proofs.YtcklaogdjpbagaaGreatDoor.M
def Mz (x:Int):Prop:=ax x∧aF x=true∧(2^872:Int) ∣ iV x∧((iV x).natAbs:Int)<=2^1224
theorem gA {x:Int} (hx:ax x) (ht:bv x=true):Mz x:=by
 rw[mM hx] at ht
 by_cases h0:rg x=0
 ·have hc:=(uv hx).2 h0
  have hp:aF x=true:=by
   cases hp:aF x
   ·exfalso
    have hf:bZ x=2047:=by simpa [aF] using hp
    unfold aR at hc
    rw[if_pos hf] at hc
    split at hc<;>omega
   ·rfl
  rw[Mz,wA hx h0]
  exact⟨hx,hp,⟨0,by rw[Int.mul_zero]⟩,by have:=p2 1224;show(((0:Int).natAbs:Nat):Int)<=_;omega⟩
 ·have hz:decide (rg x=0)=false:=decide_eq_false h0
  rw[hz,Bool.false_or,Bool.and_eq_true] at ht
  have h1:=of_decide_eq_true ht.1
  have h2:=of_decide_eq_true ht.2
  have hf0:bZ x≠2047:=by omega
  have hf1:bZ x≠0:=by omega
  have hp:aF x=true:=by simp[aF,hf0]
  have hfr:=iY x
  have e1:bL x=4503599627370496+cx x:=by unfold bL;rw[if_neg hf0,if_neg hf1]
  have e2:bM x=bZ x-1075:=by unfold bM;rw[if_neg hf0,if_neg hf1]
  have hm:bL x<=2^53:=by
   rw[e1]
   show _<=9007199254740992
   omega
  refine⟨hx,hp,?_,?_⟩
  ·apply Int.dvd_natAbs.1
   rw[jV hx hp]
   exact Int.dvd_trans (jC (show 872<=(bM x+1074).toNat by rw[e2];omega)) ⟨bL x,by rw[Int.mul_comm]⟩
  ·rw[jV hx hp]
   have p1:(2:Int)^(bM x+1074).toNat<=2^1171:=mJ (by rw[e2];omega)
   have p0:=p2 (bM x+1074).toNat
   calc bL x*2^(bM x+1074).toNat<=2^53*2^(bM x+1074).toNat:=Int.mul_le_mul_of_nonneg_right hm (by omega)
    _<=2^53*2^1171:=Int.mul_le_mul_of_nonneg_left p1 (by decide)
    _=2^1224:=by rw[<- Int.pow_add]
theorem Bw {p q:Int} (hp:Mz p) (hq:Mz q):aF (aE p (neg q))=true∧aF (sL p (neg q))=true:=by
 obtain⟨n1,n2,n3⟩:=gz hq.1 hq.2.1
 have hM:=hH
 have h1:(2:Int)^1225<=2^2097:=mJ (by decide)
 have h2:(2:Int)^1225=2*2^1224:=iE 1224
 have a:=hp.2.2.2
 have b:=hq.2.2.2
 exact ou hp.1 n1 hp.2.1 n2 (by omega) (by rw[n3];omega)
def Un (S h:Int):Prop:=9007199254740992*((h-S).natAbs:Int)<=(S.natAbs:Int)∧9007199254740992*((h-S).natAbs:Int)<=(h.natAbs:Int)
theorem pg {S h:Int} (n:Nr S h) (h0:0<=S):Un S h:=by
 obtain⟨k,h1,h2⟩:=qX S h0
 rcases h2 with h2|h2
 ·subst h2
  have e:=dJ ⟨0,⟨S,by rw[Int.pow_zero];omega⟩,by omega⟩ n
  subst e
  rw[Un,Int.sub_self]
  simp
 ·have c:=Br n (i:=k) (by omega)
  have g:=Cp n (Cq k (m:=4503599627370496) (by decide)) h2
  have p0:=p2 k
  generalize (2:Int)^k=q at *
  have g':4503599627370496*q<=h:=g
  constructor<;>omega
theorem zi {S h:Int} (n:Nr S h):Un S h:=by
 by_cases h0:0<=S
 ·exact pg n h0
 ·have:=pg n.neg (by omega)
  unfold Un at *
  omega
theorem Un.scale {S h:Int} (u:Un S h) {c:Int} (hc:0<=c):Un (c*S) (c*h):=by
 have e:∀ x:Int,((c*x).natAbs:Int)=c*(x.natAbs:Int):=fun x=>by
  rw[Int.natAbs_mul,Int.natCast_mul]
  congr 1
  omega
 rw[Un,<- Int.mul_sub,e,e,e,<- Int.mul_assoc,Int.mul_comm 9007199254740992 c,Int.mul_assoc]
 exact⟨Int.mul_le_mul_of_nonneg_left u.1 hc,Int.mul_le_mul_of_nonneg_left u.2 hc⟩
theorem lY (x y:Int):((x*y).natAbs:Int)=(x.natAbs:Int)*(y.natAbs:Int):=by rw[Int.natAbs_mul,Int.natCast_mul]
theorem wB {u e v:Int} (h:9007199254740992*(e.natAbs:Int)<=(u.natAbs:Int)):9007199254740992*((e*v).natAbs:Int)<=((u*v).natAbs:Int):=by
 rw[lY,lY,<- Int.mul_assoc]
 exact Int.mul_le_mul_of_nonneg_right h (by omega)
theorem wC {u e v:Int} (h:9007199254740992*(e.natAbs:Int)<=(u.natAbs:Int)):9007199254740992*((v*e).natAbs:Int)<=((v*u).natAbs:Int):=by
 rw[Int.mul_comm v e,Int.mul_comm v u]
 exact wB h
theorem yy {x y u v:Int} (hu:Un x u) (hv:Un y v):81129638414606681695789005144064*((x*y-u*v).natAbs:Int)<=18014398509481985*((u*v).natAbs:Int):=by
 obtain⟨e,he⟩:∃ e,x=u+e:=⟨x-u,by omega⟩
 obtain⟨f,hf⟩:∃ f,y=v+f:=⟨y-v,by omega⟩
 have h1:9007199254740992*(e.natAbs:Int)<=(u.natAbs:Int):=by have:=hu.2;omega
 have h2:9007199254740992*(f.natAbs:Int)<=(v.natAbs:Int):=by have:=hv.2;omega
 have a1:=wB (v:=v) h1
 have a2:=wC (v:=u) h2
 have a3:=wC (v:=e) h2
 have ee:x*y-u*v=u*f+e*v+e*f:=by
  rw[he,hf,Int.add_mul,Int.mul_add,Int.mul_add]
  omega
 rw[ee]
 generalize u*f=A at *
 generalize e*v=B at *
 generalize e*f=C at *
 generalize u*v=D at *
 omega
theorem DN {X Z D:Int} (hD:Un Z D) (h:((X-Z).natAbs:Int)<(Z.natAbs:Int)):(0<X↔0<D)∧(X<0↔D<0):=by
 have d:=hD.1
 omega
theorem Bx {T M:Int} (h:Un T M) (t:0<=T):9007199254740991*T<=9007199254740992*M:=by
 have:=h.1
 omega
theorem By {Z D:Int} (h:Un Z D):9007199254740991*(D.natAbs:Int)<=9007199254740992*(Z.natAbs:Int):=by
 have:=h.2
 omega
theorem Cx {a b c d X Y Z:Int} (hb:0<=b) (hc:0<=c) (h1:a*X<=b*Y) (h2:c*Y<=d*Z):(c*a)*X<=(b*d)*Z:=by
 have a1:=Int.mul_le_mul_of_nonneg_left h1 hc
 have a2:=Int.mul_le_mul_of_nonneg_left h2 hb
 rw[Int.mul_assoc,Int.mul_assoc]
 refine Int.le_trans a1 (Int.le_trans (Int.le_of_eq ?_) a2)
 rw[<- Int.mul_assoc,<- Int.mul_assoc,Int.mul_comm c b]
end Go.Proofs.YtcklaogdjpbagaaGreatDoor
