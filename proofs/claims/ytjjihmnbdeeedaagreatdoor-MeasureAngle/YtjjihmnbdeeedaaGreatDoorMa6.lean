/- Parts of the proof. -/
import Derived.Test.YtjjihmnbdeeedaaGreatDoorMa5
import Derived.Test.YtjjihmnbdeeedaaGreatDoorMa1
import Derived.Test.YtjjihmnbdeeedaaGreatDoorMa3
set_option maxRecDepth 100000
set_option maxHeartbeats 8000000
set_option linter.unusedVariables false
set_option linter.unusedSimpArgs false
namespace Go.Proofs.YtjjihmnbdeeedaaGreatDoor
open Go Go.Proofs.Tryz Go.RowKit Go.Proofs.YtjjihmnbdeeedaaGreatDoor.M Ieee
theorem lS (g:Bool):Ieee.double.write (.infinity g)=wd (aG g 9218868437227405312):=by
 unfold Format.write
 dsimp only
 rw[oe]
 exact mw (ng:=g) (r:=9218868437227405312) (by decide) (by decide)
theorem qT {q:Int} {m u:Nat} (hq:ag q) (pq:ak q=true) (h:aq q=sg (decide (q<0)) ((m:Int)*pw (-1074+(u:Int)))):m=0↔rg q=0:=by
 have e:=lj hq pq
 rw[h] at e
 have e2:=lR e
 obtain⟨r0,r1⟩:=yX hq pq
 constructor
 ·intro hm
  rw[hm] at e2
  have e3:vS (rg q).toNat=0:=by rw[<- e2];simp
  rcases Nat.eq_zero_or_pos (rg q).toNat with g|g
  ·omega
  ·have:=mH g
   rw[iT,e3] at this
   exact absurd this (Int.lt_irrefl _)
 ·intro hr
  rw[hr] at e2
  have e3:(m:Int)*pw (-1074+(u:Int))=0:=by rw[e2];exact iT
  have:=(pG (bR (-1074+(u:Int)))).2 e3
  omega
theorem Gy {p q:Int} {x y:Nat} (hx:FW p x) (hy:FW q y):(∃ z,Ieee.double.mul x y=some z∧FW (aC p q) z)∨(Ieee.double.mul x y=none∧aC p q=9221120237041090561):=by
 by_cases h4:aH p=4∨aH q=4
 ·right
  refine⟨?_,by unfold aC;rw[if_pos h4]⟩
  unfold Format.mul
  rcases h4 with h|h
  ·obtain⟨s,t,e⟩:=hx.read_nan h
   rw[e]
   rfl
  ·obtain⟨s,t,e⟩:=hy.read_nan h
   rw[e]
   cases Ieee.double.read x<;>rfl
 ·have h4p:aH p≠4:=fun h=>h4 (.inl h)
  have h4q:aH q≠4:=fun h=>h4 (.inr h)
  obtain⟨rp,rfl,p0,p1⟩:=hx.of h4p
  obtain⟨rq,rfl,q0,q1⟩:=hy.of h4q
  have hI:=jA (ng:=bN p q) (r:=9218868437227405312) (by decide) (by decide)
  have hX:(decide (p<0) ^^ decide (q<0))=bN p q:=vz _ _
  have hX2:(decide (q<0) ^^ decide (p<0))=bN p q:=by rw[<- hX];cases decide (p<0)<;>cases decide (q<0)<;>rfl
  unfold aC
  rw[if_neg h4]
  by_cases ip:rg p=9218868437227405312
  ·rw[if_pos (.inl ip)]
   have ep:=fv rp ip
   by_cases iq:rg q=9218868437227405312
   ·left
    rw[if_neg (by omega)]
    refine⟨_,?_,FW.pat hI.2 hI.1⟩
    unfold Format.mul
    rw[ep,fv rq iq]
    show some (Ieee.double.write (.infinity (decide (p<0) ^^ decide (q<0))))=_
    rw[lS,hX]
   ·have pq:=(bM rq).2 (by omega)
    obtain⟨m,u,eq,vq⟩:=dV rq pq
    have hz:=qT rq pq vq
    by_cases hm:m=0
    ·right
     refine⟨?_,by rw[if_pos (.inr (hz.1 hm))]⟩
     unfold Format.mul
     rw[ep,eq,hm]
     rfl
    ·left
     rw[if_neg (fun h=>by rcases h with h|h;omega;exact hm (hz.2 h))]
     refine⟨_,?_,FW.pat hI.2 hI.1⟩
     unfold Format.mul
     rw[ep,eq]
     unfold Datum.product
     dsimp only
     rw[if_neg hm]
     show some (Ieee.double.write (.infinity (decide (p<0) ^^ decide (q<0))))=_
     rw[lS,hX]
  ·have pp:=(bM rp).2 (by omega)
   by_cases iq:rg q=9218868437227405312
   ·rw[if_pos (.inr iq)]
    obtain⟨m,u,ep,vp⟩:=dV rp pp
    have hz:=qT rp pp vp
    have eq:=fv rq iq
    by_cases hm:m=0
    ·right
     refine⟨?_,by rw[if_pos (.inl (hz.1 hm))]⟩
     unfold Format.mul
     rw[ep,eq,hm]
     rfl
    ·left
     rw[if_neg (fun h=>by rcases h with h|h;exact hm (hz.2 h);omega)]
     refine⟨_,?_,FW.pat hI.2 hI.1⟩
     unfold Format.mul
     rw[ep,eq]
     unfold Datum.product
     dsimp only
     rw[if_neg hm]
     show some (Ieee.double.write (.infinity (decide (q<0) ^^ decide (p<0))))=_
     rw[lS,hX2]
   ·left
    rw[if_neg (by omega)]
    refine⟨_,JD rp rq pp ((bM rq).2 (by omega)),?_⟩
    by_cases hS:fV p q=0
    ·rw[if_pos hS]
     obtain⟨g1,g2⟩:=jA (ng:=bN p q) (r:=0) (by decide) (by decide)
     exact FW.pat g2 g1
    ·rw[if_neg hS]
     have hn:sg (bN p q) (fV p q)≠0:=by
      generalize fV p q=D at *
      cases bN p q
      ·exact hS
      ·show -D≠0;omega
     exact FW.pat (gh hn).2 (gh hn).1
theorem jh {P:Program} (t:TypeId) {p q:Int} {x y:Nat} (hx:FW p x) (hy:FW q y) (w:World) :
  ∃ z w',(binOp .mul t (G7 x) (G7 y)).run P w=.ok (G7 z) w'∧FW (aC p q) z∧(w'=w∨w'=w.drew):=by
 obtain⟨z,w',h,hz⟩:=kD (P:=P) .mul (.inr (.inr (.inl rfl))) t x y w
 refine⟨z,w',h,?_⟩
 have hf:floatBits .mul .f64 x y=Ieee.double.mul x y:=rfl
 rw[hf] at hz
 rcases Gy hx hy with⟨z',e1,e2⟩|⟨e1,e2⟩
 ·rcases hz with⟨h1,h2⟩|⟨h1,_⟩
  ·rw[e1] at h1;cases h1;exact⟨e2,.inl h2⟩
  ·rw[e1] at h1;cases h1
 ·rcases hz with⟨h1,_⟩|⟨_,h2,h3⟩
  ·rw[e1] at h1;cases h1
  ·rw[e2];exact⟨FW.nan h2,.inr h3⟩
theorem lx {a:Int} (ha:ag a):FW (aY a) (wd a):=by
 unfold aY
 by_cases h:aH a=4
 ·rw[if_pos h]
  refine FW.nan ⟨?_,?_⟩
  ·unfold wd;omega
  ·exact(ln ha).1 h
 ·rw[if_neg h]
  exact FW.pat h ha
theorem JE {x:Nat} (h:x<18446744073709551616):ag (sW x)∧wd (sW x)=x:=by
 unfold sW ag wd
 split
 ·exact⟨by omega,by omega⟩
 ·exact⟨by omega,by omega⟩
theorem qU {p:Int} {x:Nat} (h:FW p x) (w:World):Calls prog 124 #[G7 x] w fun e w'=>e=.returned (G6 p)∧w'=w:=by
 rcases h with⟨h4,hp,rfl⟩|⟨rfl,hN⟩
 ·have:=sw p w hp
  have e:aY p=p:=by unfold aY;rw[if_neg h4]
  rwa [e] at this
 ·obtain⟨h1,h2⟩:=JE hN.1
  have:=sw (sW x) w h1
  rw[h2] at this
  have e:aY (sW x)=9221120237041090561:=by
   unfold aY
   rw[if_pos ((ln h1).2 (by rw[h2];exact hN.2))]
  rwa [e] at this
end Go.Proofs.YtjjihmnbdeeedaaGreatDoor
namespace Go.Proofs.YtjjihmnbdeeedaaGreatDoor.M
def Fl (n:Int):Prop:=∃ k:Nat,(2^k:Int) ∣ n∧(n.natAbs:Int)<9007199254740992*2^k
def Nr (S h:Int):Prop:=Fl h∧∀ f,Fl f->(h-S).natAbs<=(f-S).natAbs
theorem p2 (k:Nat):(0:Int)<2^k:=Int.pow_pos (by decide)
theorem fG (k:Nat):(2:Int)^(k+1)=2*2^k:=by rw[Int.pow_succ,Int.mul_comm]
theorem dI {j k:Nat} (h:j<=k):(2^j:Int) ∣ 2^k:=⟨2^(k-j),by rw[<- Int.pow_add,Nat.add_sub_cancel' h]⟩
theorem jB {j k:Nat} (h:j<=k):(2:Int)^j<=2^k:=Int.le_of_dvd (p2 k) (dI h)
theorem qV {j k:Nat} (h:(2:Int)^j<2^k):j<k:=by
 rcases Nat.lt_or_ge j k with c|c
 ·exact c
 ·have:=jB c;omega
theorem Fl.neg {n:Int} (h:Fl n):Fl (-n):=by
 obtain⟨k,d,b⟩:=h
 exact⟨k,(Int.dvd_neg).2 d,by rw[Int.natAbs_neg];exact b⟩
theorem dA:Fl 0:=⟨0,⟨0,by simp⟩,by simp⟩
theorem iB {n:Int} {k:Nat} (d:(2^k:Int) ∣ n) (b:(n.natAbs:Int)<=9007199254740992*2^k):Fl n:=by
 by_cases c:(n.natAbs:Int)<9007199254740992*2^k
 ·exact⟨k,d,c⟩
 ·have e:(n.natAbs:Int)=9007199254740992*2^k:=by omega
  refine⟨k+1,?_,?_⟩
  ·rw[<- Int.dvd_natAbs,e,fG]
   exact⟨4503599627370496,by omega⟩
  ·rw[fG];have:=p2 k;omega
theorem Fl.dbl {n:Int} (h:Fl n):Fl (2*n):=by
 obtain⟨k,⟨c,rfl⟩,b⟩:=h
 refine⟨k+1,⟨c,by rw[fG,Int.mul_assoc]⟩,?_⟩
 rw[fG]
 omega
theorem Nr.neg {S h:Int} (n:Nr S h):Nr (-S) (-h):=by
 refine⟨n.1.neg,fun f hf=>?_⟩
 have:=n.2 (-f) hf.neg
 omega
theorem bt {S h:Int} (hS:Fl S) (n:Nr S h):h=S:=by
 have:=n.2 S hS
 omega
theorem Ag {x y:Int} (hx:Fl x) (hy:Fl y) (h1:(x-y).natAbs<=x.natAbs) (h2:(x-y).natAbs<=y.natAbs):Fl (x-y):=by
 obtain⟨j,dx,bx⟩:=hx
 obtain⟨k,dy,by1⟩:=hy
 rcases Nat.le_total j k with c|c
 ·exact⟨j,Int.dvd_sub dx (Int.dvd_trans (dI c) dy),by omega⟩
 ·exact⟨k,Int.dvd_sub (Int.dvd_trans (dI c) dx) dy,by omega⟩
theorem Gz {x y:Int} (hx:Fl x) (hy:Fl y) (h1:(x+y).natAbs<=x.natAbs) (h2:(x+y).natAbs<=y.natAbs):Fl (x+y):=by
 have e:x+y=x - -y:=by omega
 rw[e]
 exact Ag hx hy.neg (by omega) (by omega)
theorem vA {S h:Int} {k:Nat} (n:Nr S h) (d:(2^k:Int) ∣ S) (h0:0<=S):(2^k:Int) ∣ h:=by
 by_cases c:(S.natAbs:Int)<=9007199254740992*2^k
 ·rw[bt (iB d c) n];exact d
 ·have hT:Fl (9007199254740992*2^k):=iB ⟨9007199254740992,by rw[Int.mul_comm]⟩ (by have:=p2 k;omega)
  have h1:=n.2 _ hT
  obtain⟨j,dj,bj⟩:=n.1
  have hk:=p2 k
  have hj:=p2 j
  have:(2:Int)^k<2^j:=by omega
  exact Int.dvd_trans (dI (Nat.le_of_lt (qV this))) dj
theorem iU {S h:Int} {k:Nat} (n:Nr S h) (d:(2^k:Int) ∣ S):(2^k:Int) ∣ h:=by
 rcases Int.le_total 0 S with c|c
 ·exact vA n d c
 ·have:=vA n.neg ((Int.dvd_neg).2 d) (by omega)
  exact(Int.dvd_neg).1 this
theorem wJ {a b h:Int} (ha:Fl a) (hb:Fl b) (n:Nr (a+b) h):Fl (a+b-h):=by
 have e1:=n.2 a ha
 have e2:=n.2 b hb
 obtain⟨j,da,ba⟩:=ha
 obtain⟨k,db,bb⟩:=hb
 rcases Nat.le_total j k with c|c
 ·have d:=Int.dvd_add da (Int.dvd_trans (dI c) db)
  exact⟨j,Int.dvd_sub d (iU n d),by omega⟩
 ·have d:=Int.dvd_add (Int.dvd_trans (dI c) da) db
  exact⟨k,Int.dvd_sub d (iU n d),by omega⟩
theorem Ah {a b h:Int} (ha:Fl a) (hb:Fl b) (h0:0<=a) (hab:b.natAbs<=a.natAbs) (n:Nr (a+b) h):Fl (h-a):=by
 have ea:=n.2 a ha
 have e2:=n.2 (2*a) ha.dbl
 have ez:=n.2 0 dA
 by_cases hs:a<=2*h
 ·exact Ag n.1 ha (by omega) (by omega)
 ·have hS:Fl (a+b):=by
   obtain⟨k,⟨c,hc⟩,ba⟩:=ha
   cases k with
   | zero=>exact⟨0,⟨a+b,by simp⟩,by simp at ba ⊢;omega⟩
   | succ k=>
    have hf:Fl (2^k*c):=⟨k,⟨c,rfl⟩,by rw[fG] at ba hc;rw[Int.mul_assoc] at hc;omega⟩
    have e3:=n.2 _ hf
    rw[fG,Int.mul_assoc] at hc
    exact Gz ⟨k+1,⟨c,by rw[fG,Int.mul_assoc];exact hc⟩,ba⟩ hb (by omega) (by omega)
  rw[bt hS n,show a+b-a=b by omega]
  exact hb
theorem uH {a b h:Int} (ha:Fl a) (hb:Fl b) (hab:b.natAbs<=a.natAbs) (n:Nr (a+b) h):Fl (h-a):=by
 rcases Int.le_total 0 a with c|c
 ·exact Ah ha hb c hab n
 ·have n2:=n.neg
  rw[show -(a+b)=-a + -b by omega] at n2
  have:=(Ah ha.neg hb.neg (by omega) (by omega) n2).neg
  rwa [show -(-h - -a)=h-a by omega] at this
theorem vB (S:Int) (h0:0<=S):∃ k:Nat,S<9007199254740992*2^k∧(k=0∨4503599627370496*2^k<=S):=by
 have ex:∀ n:Nat,S<9007199254740992*2^n->∃ k:Nat,S<9007199254740992*2^k∧(k=0∨4503599627370496*2^k<=S):=by
  intro n
  induction n with
  | zero=>intro h;exact⟨0,h,.inl rfl⟩
  | succ n ih=>
   intro h
   by_cases c:S<9007199254740992*2^n
   ·exact ih c
   ·exact⟨n+1,h,.inr (by rw[fG];omega)⟩
 refine ex S.natAbs ?_
 have h1:S.natAbs<2^S.natAbs:=Nat.lt_two_pow_self
 have h2:((2^S.natAbs:Nat):Int)=2^S.natAbs:=by simp
 have h3:=p2 S.natAbs
 omega
theorem vC {S h:Int} (n:Nr S h) (h0:0<=S):1000*(h-S).natAbs<=S.natAbs:=by
 obtain⟨k,b,c⟩:=vB S h0
 have hk:=p2 k
 have hm:=Int.emod_nonneg S (show(2:Int)^k≠0 by omega)
 have hl:=Int.emod_lt_of_pos S hk
 have hf:Fl (S-S % 2^k):=by
  refine iB (k:=k) ⟨S/2^k,by have:=Int.emod_add_mul_ediv S (2^k);omega⟩ ?_
  have:0<=S-S % 2^k:=by
   have:=Int.emod_add_mul_ediv S (2^k)
   have h2:0<=2^k*(S/2^k):=Int.mul_nonneg (by omega) (Int.ediv_nonneg h0 (by omega))
   omega
  omega
 have e:=n.2 _ hf
 rcases c with c|c
 ·subst c
  have:S % 2^0=0:=by simp
  omega
 ·omega
theorem iC {S h:Int} (n:Nr S h):1000*(h-S).natAbs<=S.natAbs:=by
 rcases Int.le_total 0 S with c|c
 ·exact vC n c
 ·have:=vC n.neg (by omega)
  omega
theorem MO {a b h v u p q l:Int} (ha:Fl a) (hb:Fl b) (nh:Nr (a+b) h) (nv:Nr (h-a) v) (nu:Nr (h-v) u) (np:Nr (a-u) p) (nq:Nr (b-v) q) (nl:Nr (p+q) l):l=a+b-h:=by
 have hd:=wJ ha hb nh
 -- the step uH,where it is exact
 have A:Fl (h-a)->l=a+b-h:=by
  intro hx
  have e1:=bt hx nv
  subst e1
  rw[show h-(h-a)=a by omega] at nu
  have e2:=bt ha nu
  subst e2
  rw[show u-u=0 by omega] at np
  have e3:=bt dA np
  subst e3
  rw[show b-(h-u)=u+b-h by omega] at nq
  have e4:=bt hd nq
  subst e4
  rw[show 0+(u+b-h)=u+b-h by omega] at nl
  exact bt hd nl
 by_cases hab:b.natAbs<=a.natAbs
 ·exact A (uH ha hb hab nh)
 by_cases hha:a.natAbs<=h.natAbs
 ·-- h-v is exact
  have n1:Nr (h + -a) v:=by rw[show h + -a=h-a by omega];exact nv
  have hx:=(uH nh.1 ha.neg (by omega) n1).neg
  rw[show -(v-h)=h-v by omega] at hx
  have e1:=bt hx nu
  subst e1
  have hy:=(wJ nh.1 ha.neg n1).neg
  rw[show -(h + -a-v)=a-(h-v) by omega] at hy
  have e2:=bt hy np
  subst e2
  have r1:=iC nh
  have r2:=nv.2 b hb
  have hz:Fl (b-v):=Ag hb nv.1 (by omega) (by omega)
  have e3:=bt hz nq
  subst e3
  rw[show a-(h-v)+(b-v)=a+b-h by omega] at nl
  exact bt hd nl
 ·-- then the sum is exact
  have e1:=nh.2 a ha
  have e2:=nh.2 (-a) ha.neg
  have hS:Fl (a+b):=Gz ha hb (by omega) (by omega)
  have e3:=bt hS nh
  exact A (by rw[e3,show a+b-a=b by omega];exact hb)
theorem JF {a b h v l:Int} (ha:Fl a) (hb:Fl b) (hab:b.natAbs<=a.natAbs) (nh:Nr (a+b) h) (nv:Nr (h-a) v) (nl:Nr (b-v) l):l=a+b-h:=by
 have hd:=wJ ha hb nh
 have e1:=bt (uH ha hb hab nh) nv
 subst e1
 rw[show b-(h-a)=a+b-h by omega] at nl
 exact bt hd nl
theorem vD {S h T:Int} (n:Nr S h) (hT:Fl T) (c:T<=S):T<=h:=by
 have:=n.2 T hT
 omega
theorem Lm {S h T:Int} (n:Nr S h) (hT:Fl T) (c:S<=T):h<=T:=by
 have:=n.2 T hT
 omega
theorem vE (i:Nat) {m:Nat} (hm:(m:Int)<=9007199254740992):Fl ((m:Int)*2^i):=by
 refine iB (k:=i) ⟨m,by rw[Int.mul_comm]⟩ ?_
 have h1:0<=(m:Int)*2^i:=Int.mul_nonneg (by omega) (Int.le_of_lt (p2 i))
 have h2:(m:Int)*2^i<=9007199254740992*2^i:=Int.mul_le_mul_of_nonneg_right hm (Int.le_of_lt (p2 i))
 omega
theorem ol {h:Int} {i:Nat} (f:Fl h) (c:4503599627370496*2^i<=(h.natAbs:Int)):(2^i:Int) ∣ h:=by
 obtain⟨j,d,b⟩:=f
 have hi:=p2 i
 have hj:=p2 j
 cases i with
 | zero=>exact⟨h,by simp⟩
 | succ i=>
  rw[fG] at c
  have:(2:Int)^i<2^j:=by omega
  exact Int.dvd_trans (dI (qV this)) d
theorem GA (S:Int) (i:Nat):∃ T:Int,(2^i:Int) ∣ T∧2*(T-S).natAbs<=(2^i:Int):=by
 have hi:=p2 i
 have hm:=Int.emod_nonneg S (show(2:Int)^i≠0 by omega)
 have hl:=Int.emod_lt_of_pos S hi
 have e:=Int.emod_add_mul_ediv S (2^i)
 generalize S % 2^i=t at *
 by_cases c:2*t<=2^i
 ·exact⟨S-t,⟨S/2^i,by omega⟩,by omega⟩
 ·exact⟨S-t+2^i,⟨S/2^i+1,by rw[Int.mul_add,Int.mul_one];omega⟩,by omega⟩
theorem mP {S h:Int} {i:Nat} (n:Nr S h) (c:(S.natAbs:Int)<=9007199254740992*2^i):2*((h-S).natAbs:Int)<=2^i:=by
 obtain⟨T,d,e⟩:=GA S i
 have hi:=p2 i
 have hT:Fl T:=by
  by_cases c2:(T.natAbs:Int)<=9007199254740992*2^i
  ·exact iB d c2
  ·exfalso
   obtain⟨t,rfl⟩:=d
   have h1:(9007199254740992:Int)<t.natAbs:=by
    rw[Int.natAbs_mul] at c2
    have e2:((2^i:Int).natAbs:Int)=2^i:=by omega
    push_cast at c2
    rcases Int.lt_or_le 9007199254740992 (t.natAbs:Int) with g|g
    ·exact g
    ·exfalso
     have:=Int.mul_le_mul_of_nonneg_left g (Int.le_of_lt hi)
     rw[e2] at c2
     omega
   have h2:(2^i:Int)*9007199254740993<=((2^i*t).natAbs:Int):=by
    rw[Int.natAbs_mul]
    have e2:((2^i:Int).natAbs:Int)=2^i:=by omega
    rw[Int.natCast_mul,e2]
    exact Int.mul_le_mul_of_nonneg_left (by omega) (Int.le_of_lt hi)
   generalize 2^i*t=T at *
   omega
 have:=n.2 T hT
 omega
structure vF (a h:Int) (j:Nat):Prop where
 up:(134217728*2^j:Int) ∣ h
 lo:(2^j:Int) ∣ a-h
 top:(h.natAbs:Int)<=9007199254740992*2^j
 low:((a-h).natAbs:Int)<=67108864*2^j
theorem wK {a q:Int} {m:Int} (hq:0<q) (d:q ∣ a) (h:a<m*q):a<=m*q-q:=by
 obtain⟨c,rfl⟩:=d
 rw[Int.mul_comm q c] at h ⊢
 have h1:c<m:=Int.lt_of_mul_lt_mul_right h (by omega)
 have h2:(c+1)*q<=m*q:=Int.mul_le_mul_of_nonneg_right (by omega) (by omega)
 rw[Int.add_mul,Int.one_mul] at h2
 omega
theorem xV {a c d h l:Int} {j:Nat} (da:(2^j:Int) ∣ a) (a0:4503599627370496*2^j<=a) (a1:a<9007199254740992*2^j)
  (nc:Nr (134217729*a) c) (nd:Nr (c-a) d) (nh:Nr (c-d) h) (nl:Nr (a-h) l):h=c-d∧l=a-h∧vF a h j:=by
 have hj:=p2 j
 have a2:a<=9007199254740992*2^j-2^j:=wK hj da a1
 have a3:a=4503599627370496*2^j∨4503599627370496*2^j+2^j<=a:=by
  by_cases c0:a=4503599627370496*2^j
  ·exact .inl c0
  ·right
   have d2:(2^j:Int) ∣ -a:=(Int.dvd_neg).2 da
   have:=wK hj d2 (show -a < -4503599627370496*2^j by omega)
   omega
 have e27:(2:Int)^(j+27)=134217728*2^j:=by rw[Int.pow_add,Int.mul_comm];rfl
 have e28:(2:Int)^(j+28)=268435456*2^j:=by rw[Int.pow_add,Int.mul_comm];rfl
 have L79:Fl (604462909807314587353088*2^j):=by
  have:=vE (j+27) (m:=4503599627370496) (by decide)
  rw[e27] at this
  rwa [show((4503599627370496:Nat):Int)*(134217728*2^j)=604462909807314587353088*2^j by rw[<- Int.mul_assoc];rfl] at this
 -- the product
 have c1:=vD nc L79 (by omega)
 have ec:=mP (i:=j+28) nc (by rw[e28];omega)
 rw[e28] at ec
 have dc:(134217728*2^j:Int) ∣ c:=by rw[<- e27];exact ol nc.1 (by rw[e27];omega)
 -- where a is a power of 2 nothing is lost
 have cz:a=4503599627370496*2^j->c=134217729*a:=by
  intro h0
  refine bt ?_ nc
  subst h0
  have:=vE (j+52) (m:=134217729) (by decide)
  rw[show(2:Int)^(j+52)=4503599627370496*2^j by rw[Int.pow_add,Int.mul_comm];rfl] at this
  exact this
 have c2:604462909807314587353088*2^j<=c-a:=by
  rcases a3 with g|g
  ·have:=cz g;omega
  ·omega
 have d1:=vD nd L79 c2
 have ed:=mP (i:=j+27) nd (by rw[e27];omega)
 rw[e27] at ed
 have dd:(134217728*2^j:Int) ∣ d:=by rw[<- e27];exact ol nd.1 (by rw[e27];omega)
 have dcd:=Int.dvd_sub dc dd
 have hx:Fl (c-d):=by
  refine iB (k:=j+27) (by rw[e27];exact dcd) ?_
  rw[e27];omega
 have eh:=bt hx nh
 have top:((c-d).natAbs:Int)<=9007199254740992*2^j:=by
  -- a multiple of 2^27 units within 2^26 of what is below 2^53
  by_cases g:c-d<=9007199254740992*2^j
  ·omega
  ·exfalso
   have d2:(134217728*2^j:Int) ∣ -(c-d):=(Int.dvd_neg).2 dcd
   have:=wK (q:=134217728*2^j) (m:=-67108864) (by omega) d2 (by omega)
   omega
 have dal:(2^j:Int) ∣ a-(c-d):=Int.dvd_sub da (Int.dvd_trans ⟨134217728,by rw[Int.mul_comm]⟩ dcd)
 have hl:Fl (a-(c-d)):=iB (k:=j) dal (by omega)
 rw[eh] at nl ⊢
 have el:=bt hl nl
 exact⟨rfl,el,dcd,dal,top,by omega⟩
theorem vF.neg {a h:Int} {j:Nat} (s:vF a h j):vF (-a) (-h) j :=
 ⟨(Int.dvd_neg).2 s.up,by rw[show -a - -h=-(a-h) by omega];exact(Int.dvd_neg).2 s.lo,by rw[Int.natAbs_neg];exact s.top,by rw[show -a - -h=-(a-h) by omega,Int.natAbs_neg];exact s.low⟩
theorem Ey {a c d h l:Int} {j:Nat} (da:(2^j:Int) ∣ a) (a0:4503599627370496*2^j<=(a.natAbs:Int)) (a1:(a.natAbs:Int)<9007199254740992*2^j)
  (nc:Nr (134217729*a) c) (nd:Nr (c-a) d) (nh:Nr (c-d) h) (nl:Nr (a-h) l):h=c-d∧l=a-h∧vF a h j:=by
 rcases Int.le_total 0 a with g|g
 ·exact xV da (by omega) (by omega) nc nd nh nl
 ·have n1:=nc.neg
  rw[show -(134217729*a)=134217729 * -a by omega] at n1
  have n2:=nd.neg
  rw[show -(c-a)=-c - -a by omega] at n2
  have n3:=nh.neg
  rw[show -(c-d)=-c - -d by omega] at n3
  have n4:=nl.neg
  rw[show -(a-h)=-a - -h by omega] at n4
  obtain⟨e1,e2,s⟩:=xV ((Int.dvd_neg).2 da) (by omega) (by omega) n1 n2 n3 n4
  have:=s.neg
  rw[Int.neg_neg,Int.neg_neg] at this
  exact⟨by omega,by omega,this⟩
theorem fd (i:Nat) (t:Int):((2^i*t).natAbs:Int)=2^i*(t.natAbs:Int):=by
 have hi:=p2 i
 rw[Int.natAbs_mul,Int.natCast_mul,show((2^i:Int).natAbs:Int)=2^i by omega]
theorem Fl.down {i:Nat} {t:Int} (h:Fl (2^i*t)):Fl t:=by
 obtain⟨k,d,b⟩:=h
 rw[fd] at b
 rcases Nat.le_total i k with c|c
 ·obtain⟨e,rfl⟩:∃ e,k=i+e:=⟨k-i,by omega⟩
  rw[Int.pow_add] at d b
  refine⟨e,Int.dvd_of_mul_dvd_mul_left (by have:=p2 i;omega) d,?_⟩
  have e2:(9007199254740992:Int)*(2^i*2^e)=2^i*(9007199254740992*2^e):=by rw[<- Int.mul_assoc,<- Int.mul_assoc,Int.mul_comm _ (2^i)]
  rw[e2] at b
  exact Int.lt_of_mul_lt_mul_left b (Int.le_of_lt (p2 i))
 ·refine⟨0,⟨t,by simp⟩,?_⟩
  have h1:(9007199254740992:Int)*2^k<=2^i*9007199254740992:=by rw[Int.mul_comm];exact Int.mul_le_mul_of_nonneg_right (jB c) (by decide)
  have h2:=Int.lt_of_mul_lt_mul_left (Int.lt_of_lt_of_le b h1) (Int.le_of_lt (p2 i))
  simpa using h2
theorem Fl.up {t:Int} (h:Fl t) (i:Nat):Fl (2^i*t):=by
 obtain⟨k,⟨c,rfl⟩,b⟩:=h
 refine⟨i+k,⟨c,by rw[Int.pow_add,Int.mul_assoc]⟩,?_⟩
 rw[fd,Int.pow_add]
 have e2:(9007199254740992:Int)*(2^i*2^k)=2^i*(9007199254740992*2^k):=by rw[<- Int.mul_assoc,<- Int.mul_assoc,Int.mul_comm _ (2^i)]
 rw[e2]
 exact Int.mul_lt_mul_of_pos_left b (p2 i)
theorem fR {S h:Int} (n:Nr S h) (i:Nat):Nr (2^i*S) (2^i*h):=by
 have hi:=p2 i
 have au:∀ g:Int,Fl g->((2^i*h-2^i*S).natAbs:Int)<=((2^i*g-2^i*S).natAbs:Int):=by
  intro g hg
  rw[<- Int.mul_sub,<- Int.mul_sub,fd,fd]
  exact Int.mul_le_mul_of_nonneg_left (by have:=n.2 g hg;omega) (Int.le_of_lt hi)
 refine⟨n.1.up i,fun f hf=>?_⟩
 by_cases d:(2^i:Int) ∣ f
 ·obtain⟨g,rfl⟩:=d
  have:=au g hf.down
  omega
 ·-- f is small: the next whole number of units on S's side is a float,and nearer
  obtain⟨j,dj,bj⟩:=hf
  have hji:j<i:=by
   rcases Nat.lt_or_ge j i with c|c
   ·exact c
   ·exact absurd (Int.dvd_trans (dI c) dj) d
  have hfb:(f.natAbs:Int)<4503599627370496*2^i:=by
   have:=jB (show j+1<=i by omega)
   rw[fG] at this
   omega
  have em:=Int.emod_add_mul_ediv f (2^i)
  have m0:=Int.emod_nonneg f (show(2:Int)^i≠0 by omega)
  have m1:=Int.emod_lt_of_pos f hi
  obtain⟨e,he⟩:∃ e,f/2^i=e:=⟨_,rfl⟩
  rw[he] at em
  have small:∀ g:Int,((2^i*g).natAbs:Int)<=4503599627370496*2^i+2^i->Fl g:=by
   intro g hg
   rw[fd] at hg
   refine iB (k:=0) ⟨g,by simp⟩ ?_
   have:(2:Int)^i*(g.natAbs:Int)<=2^i*4503599627370497:=by omega
   have:=Int.le_of_mul_le_mul_left this hi
   simp
   omega
  rcases Int.lt_or_le e S with c|c
  ·have h1:=au (e+1) (small (e+1) (by rw[Int.mul_add,Int.mul_one];omega))
   have h2:(2:Int)^i*(e+1)<=2^i*S:=Int.mul_le_mul_of_nonneg_left (by omega) (Int.le_of_lt hi)
   rw[Int.mul_add,Int.mul_one] at h1 h2
   omega
  ·have h1:=au e (small e (by omega))
   have h2:(2:Int)^i*S<=2^i*e:=Int.mul_le_mul_of_nonneg_left (by omega) (Int.le_of_lt hi)
   omega
theorem Ez (j:Nat):∀ (n:Nat) (a:Int),((a.natAbs:Int)<9007199254740992*2^j)->(4503599627370496*2^j<=2^n*(a.natAbs:Int))->∃ x:Nat,4503599627370496*2^j<=((2^x*a).natAbs:Int)∧((2^x*a).natAbs:Int)<9007199254740992*2^j:=by
 intro n
 induction n with
 | zero=>
  intro a h1 h2
  rw[Int.pow_zero,Int.one_mul] at h2
  exact⟨0,by rw[Int.pow_zero,Int.one_mul];exact⟨h2,h1⟩⟩
 | succ n ih=>
  intro a h1 h2
  by_cases c:4503599627370496*2^j<=(a.natAbs:Int)
  ·exact⟨0,by rw[Int.pow_zero,Int.one_mul];exact⟨c,h1⟩⟩
  ·have e:((2*a).natAbs:Int)=2*(a.natAbs:Int):=by omega
   obtain⟨x,g⟩:=ih (2*a) (by omega) (by rw[e,<- Int.mul_assoc,Int.mul_comm (2^n) 2,<- fG];exact h2)
   rw[<- Int.mul_assoc,Int.mul_comm (2^x) 2,<- fG] at g
   exact⟨x+1,g⟩
theorem MP {a:Int} (h:Fl a) (h0:a≠0):∃ x j:Nat,(2^j:Int) ∣ 2^x*a∧4503599627370496*2^j<=((2^x*a).natAbs:Int)∧((2^x*a).natAbs:Int)<9007199254740992*2^j:=by
 obtain⟨j,d,b⟩:=h
 have hj:=p2 j
 have h1:(2^j:Int)<=(a.natAbs:Int):=Int.le_of_dvd (by omega) (Int.dvd_natAbs.2 d)
 obtain⟨x,g⟩:=Ez j 52 a b (by rw[show(2:Int)^52=4503599627370496 by decide];omega)
 exact⟨x,j,Int.dvd_mul_of_dvd_right d,g⟩
theorem JG {a c d h l:Int} (ha:Fl a) (h0:a≠0) (nc:Nr (134217729*a) c) (nd:Nr (c-a) d) (nh:Nr (c-d) h) (nl:Nr (a-h) l) :
  l=a-h∧∃ x j:Nat,vF (2^x*a) (2^x*h) j∧4503599627370496*2^j<=((2^x*a).natAbs:Int)∧((2^x*a).natAbs:Int)<9007199254740992*2^j:=by
 obtain⟨x,j,g1,g2,g3⟩:=MP ha h0
 have n1:=fR nc x
 rw[show(2:Int)^x*(134217729*a)=134217729*(2^x*a) by rw[<- Int.mul_assoc,Int.mul_comm (2^x),Int.mul_assoc]] at n1
 have n2:=fR nd x
 rw[Int.mul_sub] at n2
 have n3:=fR nh x
 rw[Int.mul_sub] at n3
 have n4:=fR nl x
 rw[Int.mul_sub] at n4
 obtain⟨e1,e2,s⟩:=Ey g1 g2 g3 n1 n2 n3 n4
 rw[<- Int.mul_sub] at e2
 exact⟨Int.eq_of_mul_eq_mul_left (by have:=p2 x;omega) e2,x,j,s,g2,g3⟩
theorem iD {x y:Int} {X Y:Int} (hx:(x.natAbs:Int)<=X) (hy:(y.natAbs:Int)<=Y):((x*y).natAbs:Int)<=X*Y:=by
 rw[Int.natAbs_mul,Int.natCast_mul]
 exact Int.mul_le_mul hx hy (by omega) (by omega)
theorem EB {x y:Int} {X Y:Int} (hX:0<=X) (hY:0<=Y) (hx:X<=(x.natAbs:Int)) (hy:Y<=(y.natAbs:Int)):X*Y<=((x*y).natAbs:Int):=by
 rw[Int.natAbs_mul,Int.natCast_mul]
 exact Int.mul_le_mul hx hy hY (by omega)
theorem nA (c d:Int) (i j:Nat):(c*2^i)*(d*2^j)=c*d*2^(i+j):=by
 rw[Int.pow_add,Int.mul_assoc,Int.mul_assoc]
 congr 1
 rw[<- Int.mul_assoc,<- Int.mul_assoc,Int.mul_comm (2^i) d]
theorem Ry (a b c d:Int):a+c+(b+d)=a+b+c+d:=by omega
theorem SE (a b c d:Int):a+b+c+d=a+(b+d)+c:=by omega
theorem SF (a b c d:Int):a+b+c+d=a+b+(c+d):=by omega
theorem SH (h a b c d:Int):d-(h-a-b-c)=a+b+c+d-h:=by omega
theorem SJ {H AB PR QB PS g:Int} (e:AB=PR+QB+PS) (h:2*((H-AB).natAbs:Int)<=9007199254740992*g) (q:(QB.natAbs:Int)<=604462909807314587353088*g) (s:(PS.natAbs:Int)<=604462909807314587353088*g):((H-PR).natAbs:Int)<=9007199254740992*(4503599627370496*g):=by omega
theorem SK {H AB PR QR AS g:Int} (e:AB=PR+QR+AS) (h:2*((H-AB).natAbs:Int)<=9007199254740992*g) (q:(AS.natAbs:Int)<=604462909807314587353088*g):((H-PR-QR).natAbs:Int)<=9007199254740992*(134217728*g):=by omega
theorem SL {H AB PR QR PS QS g:Int} (e:AB=PR+QR+PS+QS) (h:2*((H-AB).natAbs:Int)<=9007199254740992*g) (q:(QS.natAbs:Int)<=4503599627370496*g):((H-PR-QR-PS).natAbs:Int)<=9007199254740992*g:=by omega
theorem SN {H AB PR QR PS QS g:Int} (e:AB=PR+QR+PS+QS) (h:2*((H-AB).natAbs:Int)<=9007199254740992*g):((QS-(H-PR-QR-PS)).natAbs:Int)<=9007199254740992*g:=by omega
theorem Rz {H AB G:Int} (n:Nr AB H) (f:Fl G) (h:G<=(AB.natAbs:Int)):G<=(H.natAbs:Int):=by
 rcases Int.le_total 0 AB with c|c
 ·have:=vD n f (by omega);omega
 ·have:=Lm n f.neg (by omega);omega
theorem RC {x c d g:Int} (hg:0<g) (h:(x.natAbs:Int)<=c*g) (hcd:c<=d):(x.natAbs:Int)<=d*g:=Int.le_trans h (Int.mul_le_mul_of_nonneg_right hcd (Int.le_of_lt hg))
theorem Ln {x c d e g:Int} (hg:0<g) (h:(x.natAbs:Int)<=c*g) (hcd:c<=d*e):(x.natAbs:Int)<=d*(e*g):=by rw[<- Int.mul_assoc];exact RC hg h hcd
theorem OO {A B P R H x1 t1 x2 t2 x3 t3 x4 l:Int} {i j:Nat} (sa:vF A P i) (sb:vF B R j) (a0:4503599627370496*2^i<=(A.natAbs:Int)) (a1:(A.natAbs:Int)<9007199254740992*2^i)
  (b0:4503599627370496*2^j<=(B.natAbs:Int)) (b1:(B.natAbs:Int)<9007199254740992*2^j)
  (nH:Nr (A*B) H) (n1:Nr (P*R) x1) (m1:Nr (H-x1) t1) (n2:Nr ((A-P)*R) x2) (m2:Nr (t1-x2) t2) (n3:Nr (P*(B-R)) x3) (m3:Nr (t2-x3) t3) (n4:Nr ((A-P)*(B-R)) x4) (m4:Nr (x4-t3) l):l=A*B-H:=by
 obtain⟨Q,hQ⟩:∃ Q,A-P=Q:=⟨_,rfl⟩
 obtain⟨S,hS⟩:∃ S,B-R=S:=⟨_,rfl⟩
 obtain⟨u1,u2,u3,u4⟩:=sa
 obtain⟨v1,v2,v3,v4⟩:=sb
 rw[hQ] at u2 u4 n2 n4
 rw[hS] at v2 v4 n3 n4
 have hi:=p2 i
 have hj:=p2 j
 have hg:=p2 (i+j)
 -- sizes
 have zAB:=EB (by omega) (by omega) a0 b0
 rw[nA] at zAB
 have yAB:=iD (Int.le_of_lt a1) (Int.le_of_lt b1)
 rw[nA] at yAB
 have yQS:=iD u4 v4
 rw[nA] at yQS
 have yQR:=iD u4 v3
 rw[nA] at yQR
 have yPS:=iD u3 v4
 rw[nA] at yPS
 have yPR:=iD u3 v3
 rw[nA] at yPR
 have yQB:=iD u4 (Int.le_of_lt b1)
 rw[nA] at yQB
 have yAS:=iD (Int.le_of_lt a1) v4
 rw[nA] at yAS
 -- units
 have dPR:(18014398509481984*2^(i+j):Int) ∣ P*R:=by
  have:=Int.mul_dvd_mul u1 v1
  rw[nA] at this
  exact this
 have dQR:(134217728*2^(i+j):Int) ∣ Q*R:=by
  have:=Int.mul_dvd_mul u2 v1
  rw[show(2:Int)^i*(134217728*2^j)=134217728*2^(i+j) by rw[<- Int.mul_assoc,Int.mul_comm (2^i),Int.mul_assoc,<- Int.pow_add]] at this
  exact this
 have dPS:(134217728*2^(i+j):Int) ∣ P*S:=by
  have:=Int.mul_dvd_mul u1 v2
  rw[show 134217728*(2:Int)^i*2^j=134217728*2^(i+j) by rw[Int.mul_assoc,<- Int.pow_add]] at this
  exact this
 have dQS:(2^(i+j):Int) ∣ Q*S:=by
  have:=Int.mul_dvd_mul u2 v2
  rwa [<- Int.pow_add] at this
 have eA:A=P+Q:=by omega
 have eB:B=R+S:=by omega
 have e1:A*B=P*R+Q*R+P*S+Q*S:=by
  rw[eA,eB,Int.add_mul,Int.mul_add,Int.mul_add];exact Ry _ _ _ _
 have e2:Q*B=Q*R+Q*S:=by rw[eB,Int.mul_add]
 have e3:A*S=P*S+Q*S:=by rw[eA,Int.add_mul]
 have e4:A*B=P*R+Q*B+P*S:=by rw[e1,e2];exact SE _ _ _ _
 have e5:A*B=P*R+Q*R+A*S:=by rw[e1,e3];exact SF _ _ _ _
 clear eA eB hQ hS e2 e3
 generalize P*R=PR at *
 generalize Q*R=QR at *
 generalize P*S=PS at *
 generalize Q*S=QS at *
 generalize A*S=AS at *
 generalize Q*B=QB at *
 generalize A*B=AB at *
 obtain⟨g,hgg⟩:∃ g:Int,(2:Int)^(i+j)=g:=⟨_,rfl⟩
 have w27:(2:Int)^(i+j+27)=134217728*g:=by rw[Int.pow_add,hgg,Int.mul_comm];rfl
 have w52:(2:Int)^(i+j+52)=4503599627370496*g:=by rw[Int.pow_add,hgg,Int.mul_comm];rfl
 have w53:(2:Int)^(i+j+53)=9007199254740992*g:=by rw[Int.pow_add,hgg,Int.mul_comm];rfl
 have w54:(2:Int)^(i+j+54)=18014398509481984*g:=by rw[Int.pow_add,hgg,Int.mul_comm];rfl
 rw[hgg] at zAB yAB yQS yQR yPS yPR yQB yAS dPR dQR dPS dQS hg
 -- the product
 have eH:=mP (i:=i+j+53) nH (by rw[w53];exact Ln hg yAB (by decide))
 rw[w53] at eH
 have L104:Fl (20282409603651670423947251286016*g):=by
  have:=vE (i+j+52) (m:=4503599627370496) (by decide)
  rw[w52] at this
  rwa [show((4503599627370496:Nat):Int)*(4503599627370496*g)=20282409603651670423947251286016*g by rw[<- Int.mul_assoc];rfl] at this
 have h104:20282409603651670423947251286016*g<=(H.natAbs:Int):=Rz nH L104 zAB
 have dH:(4503599627370496*g:Int) ∣ H:=by rw[<- w52];exact ol nH.1 (by rw[w52,<- Int.mul_assoc];exact h104)
 have dvA:∀ {c d x:Int},(c*d*g:Int) ∣ x->(d*g:Int) ∣ x:=fun {c d x} h=>Int.dvd_trans ⟨c,by rw[Int.mul_assoc,Int.mul_comm]⟩ h
 -- the steps
 have f1:=bt (iB (k:=i+j+54) (by rw[w54];exact dPR) (by rw[w54];exact Ln hg yPR (by decide))) n1
 subst f1
 have d1:(4503599627370496*g:Int) ∣ H-x1:=Int.dvd_sub dH (dvA (c:=4) dPR)
 have f2:=bt (iB (k:=i+j+52) (by rw[w52];exact d1) (by rw[w52];exact SJ e4 eH yQB yPS)) m1
 subst f2
 have f3:=bt (iB (k:=i+j+27) (by rw[w27];exact dQR) (by rw[w27];exact Ln hg yQR (by decide))) n2
 subst f3
 have d2:(134217728*g:Int) ∣ H-x1-x2:=Int.dvd_sub (dvA (c:=33554432) d1) dQR
 have f4:=bt (iB (k:=i+j+27) (by rw[w27];exact d2) (by rw[w27];exact SK e5 eH yAS)) m2
 subst f4
 have f5:=bt (iB (k:=i+j+27) (by rw[w27];exact dPS) (by rw[w27];exact Ln hg yPS (by decide))) n3
 subst f5
 have d3:(g:Int) ∣ H-x1-x2-x3:=by
  have:=Int.dvd_sub d2 dPS
  exact Int.dvd_trans ⟨134217728,by rw[Int.mul_comm]⟩ this
 have f6:=bt (iB (k:=i+j) (by rw[hgg];exact d3) (by rw[hgg];exact SL e1 eH yQS)) m3
 subst f6
 have f7:=bt (iB (k:=i+j) (by rw[hgg];exact dQS) (by rw[hgg];exact RC hg yQS (by decide))) n4
 subst f7
 have d4:(g:Int) ∣ x4-(H-x1-x2-x3):=Int.dvd_sub dQS d3
 have f8:=bt (iB (k:=i+j) (by rw[hgg];exact d4) (by rw[hgg];exact SN e1 eH)) m4
 rw[f8,e1]
 exact SH _ _ _ _ _
end Go.Proofs.YtjjihmnbdeeedaaGreatDoor.M
namespace Go.Proofs.YtjjihmnbdeeedaaGreatDoor
open Go Go.Proofs.Tryz Go.RowKit Go.Proofs.YtjjihmnbdeeedaaGreatDoor.M Ieee
def iV (p:Int):Int:=sg (decide (p<0)) (V Ieee.double (rg p).toNat:Int)
theorem cQ {p:Int} (hp:ag p) (h:ak p=true):aq p=iV p*pw (-1074):=by
 rw[lj hp h];unfold iV vS;rw[pV]
theorem wL (n k:Nat):((n*2^k:Nat):Int)=2^k*(n:Int):=by rw[Int.natCast_mul,Int.mul_comm];simp
theorem RN {S q:Int} (hq:0<q) (h:S≠0):S*q≠0:=fun c=>by
 rcases Int.mul_eq_zero.1 c with d|d<;>omega
theorem Qy {S q:Int} (hq:0<q):decide (S*q<0)=decide (S<0):=by
 congr 1
 exact propext (uc hq).symm
theorem Qz {S q A:Int} (hq:0<q) (h:S*q=sg (decide (S<0)) A):A=(S.natAbs:Int)*q:=by
 have:=xU (t:=S) hq
 rw[this] at h
 exact(lR h).symm
theorem OP {S h:Int} (n:Nr (S.natAbs:Int) h):Nr S (sg (decide (S<0)) h):=by
 by_cases c:S<0
 ·rw[decide_eq_true c]
  have n2:=n.neg
  have e:-(S.natAbs:Int)=S:=by omega
  rw[e] at n2
  exact n2
 ·rw[decide_eq_false c]
  have e:(S.natAbs:Int)=S:=by omega
  rw[e] at n
  exact n
theorem EC (r:Nat):Fl (V Ieee.double r:Int):=by
 unfold V
 rw[mu]
 by_cases h:r<4503599627370496
 ·rw[if_pos h]
  exact⟨0,⟨r,by simp⟩,by simp;omega⟩
 ·rw[if_neg h]
  have hm:=Nat.mod_lt r (show 0<4503599627370496 by decide)
  obtain⟨n,hn⟩:∃ n,4503599627370496+r % 4503599627370496=n:=⟨_,rfl⟩
  rw[hn]
  refine⟨r/4503599627370496-1,⟨n,wL _ _⟩,?_⟩
  rw[Int.natAbs_natCast,wL,Int.mul_comm]
  exact Int.mul_lt_mul_of_pos_right (by omega) (p2 _)
theorem RO {f:Int} (h:Fl f):∃ r:Nat,(f.natAbs:Int)=(V Ieee.double r:Int):=by
 obtain⟨k,b,c⟩:=vB (f.natAbs:Int) (by omega)
 rcases Nat.eq_zero_or_pos k with g|g
 ·subst g
  have:=lp Ieee.double 0 f.natAbs (.inl ⟨rfl,by rw[mu];simp at b;omega⟩)
  exact⟨_,by rw[this];simp⟩
 ·have c2:4503599627370496*2^k<=(f.natAbs:Int):=by
   rcases c with c|c
   ·omega
   ·exact c
  obtain⟨t,ht⟩:=ol h c2
  have e:(f.natAbs:Int)=2^k*(t.natAbs:Int):=by rw[ht,fd]
  rw[e] at b c2
  have hk:=p2 k
  have b2:(t.natAbs:Int)<9007199254740992:=Int.lt_of_mul_lt_mul_left (by rw[Int.mul_comm (2^k) 9007199254740992];exact b) (Int.le_of_lt hk)
  have c3:4503599627370496<=(t.natAbs:Int):=Int.le_of_mul_le_mul_left (by rw[Int.mul_comm (2^k) 4503599627370496];exact c2) hk
  have:=lp Ieee.double k t.natAbs (.inr ⟨by rw[mu];omega,by rw[mu];omega⟩)
  exact⟨_,by rw[this,e];push_cast;rw[Int.mul_comm]⟩
theorem wM {r s:Nat} (h:r<=s):(V Ieee.double r:Int)<=V Ieee.double s:=by
 rcases Nat.lt_or_eq_of_le h with g|g
 ·have:=oc Ieee.double g;omega
 ·rw[g];omega
theorem RR {S:Int} {ng:Bool} {r0:Nat} {left:Int} (h0:0<=S) (hR:fi (S*pw (-1074)) r0 left) (hf:bF 0 ng r0 left<9218868437227405312):Nr S (V Ieee.double (bF 0 ng r0 left).toNat:Int):=by
 obtain⟨lo,hi,l0,l1,l2,l3⟩:=hR
 have hq:=bR (-1074)
 unfold vS at *
 generalize pw (-1074)=q at *
 have g1:(V Ieee.double r0:Int)<=S:=Int.le_of_mul_le_mul_right lo hq
 have g2:S<(V Ieee.double (r0+1):Int):=Int.lt_of_mul_lt_mul_right hi (Int.le_of_lt hq)
 have g3:left=2->2*S=(V Ieee.double r0:Int)+V Ieee.double (r0+1):=fun c=>by
  have:=l2.1 c
  rw[<- Int.add_mul,<- Int.mul_assoc] at this
  exact Int.eq_of_mul_eq_mul_right (by omega) this
 have g4:left=3->(V Ieee.double r0:Int)+V Ieee.double (r0+1)<2*S:=fun c=>by
  have:=l3.1 c
  rw[<- Int.add_mul,<- Int.mul_assoc] at this
  exact Int.lt_of_mul_lt_mul_right this (Int.le_of_lt hq)
 have g5:left≠3->2*S<=(V Ieee.double r0:Int)+V Ieee.double (r0+1):=fun c=>by
  rcases Int.lt_or_le ((V Ieee.double r0:Int)+V Ieee.double (r0+1)) (2*S) with d|d
  ·have:=Int.mul_lt_mul_of_pos_right d hq
   rw[Int.add_mul,Int.mul_assoc] at this
   exact absurd (l3.2 this) c
  ·exact d
 clear l0 l1 l2 l3 lo hi
 have far:∀ f:Int,Fl f->f<=V Ieee.double r0∨V Ieee.double (r0+1)<=f:=by
  intro f hf
  obtain⟨s,hs⟩:=RO hf
  rcases Nat.lt_or_ge r0 s with c|c
  ·have:=wM (show r0+1<=s from c)
   have:=wM (show 0<=r0 by omega)
   omega
  ·have:=wM c
   omega
 unfold bF at hf ⊢
 by_cases hr:(r0:Int)<9218868437227405312
 ·rw[if_pos hr] at hf ⊢
  cases hu:bX 0 ng (decide (r0 % 2=1)) left
  ·rw[if_neg (by decide)]
   have e:((r0:Int)+0).toNat=r0:=by omega
   rw[e]
   have hl:left≠3:=fun c=>by
    subst c
    unfold bX at hu
    simp at hu
   refine⟨EC r0,fun f hf=>?_⟩
   have:=far f hf
   have:=g5 hl
   omega
  ·rw[if_pos rfl]
   have e:((r0:Int)+1).toNat=r0+1:=by omega
   rw[e]
   have hl:left=3∨left=2:=by
    unfold bX at hu
    simp at hu
    rcases hu with c|c
    ·exact .inl c
    ·exact .inr c.1
   refine⟨EC (r0+1),fun f hf=>?_⟩
   have:=far f hf
   rcases hl with c|c
   ·have:=g4 c;omega
   ·have:=g3 c;omega
 ·rw[if_neg hr] at hf
  unfold eL bX at hf
  simp at hf
def jO:Int:=(V Ieee.double 9218868437227405311:Int)
theorem QC {S:Int} {ng:Bool} {r0:Nat} {left:Int} (h0:S<=jO) (hR:fi (S*pw (-1074)) r0 left):bF 0 ng r0 left<9218868437227405312:=by
 obtain⟨lo,hi,l0,l1,l2,l3⟩:=hR
 have hq:=bR (-1074)
 unfold vS at *
 generalize pw (-1074)=q at *
 have g1:(V Ieee.double r0:Int)<=S:=Int.le_of_mul_le_mul_right lo hq
 have hr:r0<=9218868437227405311:=by
  rcases Nat.lt_or_ge 9218868437227405311 r0 with c|c
  ·have:=oc Ieee.double c
   unfold jO at h0
   omega
  ·exact c
 unfold bF
 rw[if_pos (by omega)]
 by_cases c:r0=9218868437227405311
 ·have e:S=(V Ieee.double r0:Int):=by rw[c] at g1 ⊢;unfold jO at h0;omega
  have:left=0:=l0.2 (by rw[e])
  subst this
  rw[if_neg (fun c=>jy c)]
  omega
 ·split<;>omega
theorem eM {ng:Bool} {r:Int} (h0:0<=r) (h1:r<=9218868437227405312):ag (aG ng r)∧rg (aG ng r)=r∧decide (aG ng r<0)=ng:=by
 unfold aG ag rg
 cases ng
 ·simp only[Bool.false_eq_true,if_false]
  rw[if_neg (by omega)]
  exact⟨by omega,rfl,decide_eq_false (by omega)⟩
 ·simp only[if_true]
  rw[if_pos (by omega)]
  exact⟨by omega,by omega,decide_eq_true (by omega)⟩
theorem ki {ng:Bool} {r:Int} (h0:0<=r) (h1:r<=9218868437227405312):ak (aG ng r)=decide (r<9218868437227405312):=by
 obtain⟨a,b,_⟩:=eM (ng:=ng) h0 h1
 have:=bM a
 rw[b] at this
 cases h:ak (aG ng r)
 ·refine(decide_eq_false fun c=>?_).symm
  rw[this.2 c] at h;cases h
 ·exact(decide_eq_true (this.1 h)).symm
theorem tB {ng:Bool} {r:Int} (h0:0<=r) (h1:r<=9218868437227405312):iV (aG ng r)=sg ng (V Ieee.double r.toNat:Int):=by
 obtain⟨_,b,c⟩:=eM (ng:=ng) h0 h1
 unfold iV
 rw[b,c]
theorem MQ:Nr 0 0:=⟨dA,fun f _=>by omega⟩
theorem Dm {S:Int} (h:S≠0):ag (bT (S*pw (-1074)))∧(ak (bT (S*pw (-1074)))=true->Nr S (iV (bT (S*pw (-1074)))))∧((S.natAbs:Int)<=jO->ak (bT (S*pw (-1074)))=true):=by
 have hq:=bR (-1074)
 obtain⟨A,r0,left,e1,hR,e2⟩:=iA (RN hq h)
 rw[Qy hq] at e1 e2
 have hA:=Qz hq e1
 rw[hA] at hR
 have hrr:=dJ 0 (decide (S<0)) r0 left
 rw[e2]
 refine⟨(eM hrr.1 hrr.2).1,fun hp=>?_,fun hb=>?_⟩
 ·rw[ki hrr.1 hrr.2] at hp
  have n:=RR (ng:=decide (S<0)) (Int.natCast_nonneg _) hR (of_decide_eq_true hp)
  rw[tB hrr.1 hrr.2]
  exact OP n
 ·rw[ki hrr.1 hrr.2]
  exact decide_eq_true (QC hb hR)
theorem pZ:ag 9221120237041090561:=by unfold ag;decide
theorem om:ak 9221120237041090561=false:=by decide
theorem mQ {p:Int} (hp:ag p) (h4:¬ aH p=4) (hi:¬ rg p=9218868437227405312):ak p=true:=by
 have:=(eZ hp).1
 rw[bM hp]
 have:¬ 9218868437227405312<rg p:=fun c=>h4 (this.2 c)
 omega
theorem GB {p:Int} (hp:ag p) (hi:rg p=9218868437227405312):¬ ak p=true:=fun h=>by
 have:=(bM hp).1 h
 omega
theorem iW {p:Int} (hp:ag p) (h:ak p=true):¬ aH p=4∧¬ rg p=9218868437227405312:=by
 have h1:=(bM hp).1 h
 exact⟨fun c=>by have:=(eZ hp).1.1 c;omega,by omega⟩
theorem xW {p q:Int} (hp:ag p) (hq:ag q) (h:ak (aF p q)=true):ak p=true∧ak q=true:=by
 unfold aF at h
 by_cases c4:aH p=4∨aH q=4
 ·rw[if_pos c4,om] at h;cases h
 rw[if_neg c4] at h
 by_cases ci:rg p=9218868437227405312
 ·rw[if_pos ci] at h
  by_cases cj:rg q=9218868437227405312∧decide (p<0)≠decide (q<0)
  ·rw[if_pos cj,om] at h;cases h
  ·rw[if_neg cj] at h;exact absurd h (GB hp ci)
 rw[if_neg ci] at h
 by_cases cj:rg q=9218868437227405312
 ·rw[if_pos cj] at h;exact absurd h (GB hq cj)
 exact⟨mQ hp (fun c=>c4 (.inl c)) ci,mQ hq (fun c=>c4 (.inr c)) cj⟩
theorem ED {p q:Int} (hp:ag p) (hq:ag q) (h:ak (aC p q)=true):ak p=true∧ak q=true:=by
 unfold aC at h
 by_cases c4:aH p=4∨aH q=4
 ·rw[if_pos c4,om] at h;cases h
 rw[if_neg c4] at h
 by_cases ci:rg p=9218868437227405312∨rg q=9218868437227405312
 ·rw[if_pos ci] at h
  by_cases cj:rg p=0∨rg q=0
  ·rw[if_pos cj,om] at h;cases h
  ·rw[if_neg cj,ki (by decide) (by decide)] at h
   simp at h
 exact⟨mQ hp (fun c=>c4 (.inl c)) (fun c=>ci (.inl c)),mQ hq (fun c=>c4 (.inr c)) (fun c=>ci (.inr c))⟩
theorem EE (g:Bool):ag (aG g 0)∧ak (aG g 0)=true∧iV (aG g 0)=0:=by
 refine⟨(eM (by decide) (by decide)).1,?_,?_⟩
 ·rw[ki (by decide) (by decide)];decide
 ·rw[tB (by decide) (by decide)]
  show sg g (V Ieee.double 0:Int)=0
  rw[pJ]
  exact gN g
structure wN (S p:Int):Prop where
 rn:ag p
 nr:ak p=true->Nr S (iV p)
 fin:(S.natAbs:Int)<=jO->ak p=true
theorem Ai (g:Bool):wN 0 (aG g 0):=by
 obtain⟨a,b,c⟩:=EE g
 exact⟨a,fun _=>by rw[c];exact MQ,fun _=>b⟩
theorem Aj {S:Int} (h:S≠0):wN S (bT (S*pw (-1074))):=by
 obtain⟨a,b,c⟩:=Dm h
 exact⟨a,b,c⟩
theorem RT {a b T u Z k w:Int} (hz:0<Z) (e2:w*w=u*Z) (e3:w=u*k) (hT:k*T=a*b):a*w*(b*w)/Z=T*w:=by
 have e1:a*w*(b*w)=a*b*(w*w):=by
  rw[Int.mul_assoc,Int.mul_assoc];congr 1;rw[<- Int.mul_assoc,<- Int.mul_assoc,Int.mul_comm w b]
 rw[e1,e2,<- hT]
 have:k*T*(u*Z)=T*w*Z:=by
  rw[e3,Int.mul_comm k T,Int.mul_assoc,Int.mul_assoc,<- Int.mul_assoc k u Z,Int.mul_comm k u]
 rw[this]
 exact Int.mul_ediv_cancel _ (by omega)
theorem OQ {T w:Int} (g:Bool) (hw:0<w) (d:sg g (T*w)=0):T=0:=by
 have:=qB d
 rcases Int.mul_eq_zero.1 this with g|g<;>omega
theorem MR {T w:Int} (hw:0<w) (d:T*w=0):T=0:=by
 rcases Int.mul_eq_zero.1 d with g|g<;>omega
theorem QD {T w:Int} (g:Bool) (h:T=0):sg g (T*w)=0:=by rw[h,Int.zero_mul];exact gN g
theorem OR (g:Bool) (A:Int):sg g (sg g A)=A:=by cases g<;>simp[sg]
theorem il {p q:Int} (hp:ag p) (hq:ag q) (pp:ak p=true) (pq:ak q=true):wN (iV p+iV q) (aF p q):=by
 obtain⟨a1,a2⟩:=iW hp pp
 obtain⟨b1,b2⟩:=iW hq pq
 have e:aF p q=if iV p+iV q=0 then aG (decide (p<0)&&decide (q<0)) 0 else bT ((iV p+iV q)*pw (-1074)):=by
  unfold aF
  rw[if_neg (fun c=>c.elim a1 b1),if_neg a2,if_neg b2,cQ hp pp,cQ hq pq,<- Int.add_mul]
  have hq:=bR (-1074)
  by_cases c:iV p+iV q=0
  ·rw[if_pos c,if_pos (by rw[c,Int.zero_mul])]
  ·rw[if_neg c,if_neg (fun d=>c (MR hq d))]
 rw[e]
 by_cases c:iV p+iV q=0
 ·rw[if_pos c,c];exact Ai _
 ·rw[if_neg c];exact Aj c
theorem fw {p q T:Int} (hp:ag p) (hq:ag q) (pp:ak p=true) (pq:ak q=true) (hT:2^1074*T=iV p*iV q):wN T (aC p q):=by
 obtain⟨a1,a2⟩:=iW hp pp
 obtain⟨b1,b2⟩:=iW hq pq
 have hw:=bR (-1074)
 have hs:aq p*aq q/2^4194304=T*pw (-1074):=by
  rw[cQ hp pp,cQ hq pq]
  have e2:=oh (a:=-1074) (b:=-1074) (by decide) (by decide)
  rw[show(-1074 + -1074:Int)=-2148 by decide] at e2
  have e3:=gW (e:=-2148) (by decide) 1074
  rw[show(-2148+((1074:Nat):Int))=-1074 by decide] at e3
  exact RT (aR 4194304) e2 e3 hT
 have e:aC p q=if T=0 then aG (bN p q) 0 else bT (T*pw (-1074)):=by
  unfold aC fV
  rw[if_neg (fun c=>c.elim a1 b1),if_neg (fun c=>c.elim a2 b2),hs]
  by_cases c:T=0
  ·rw[if_pos c,if_pos (QD _ c)]
  ·rw[if_neg c,if_neg (fun d=>c (OQ _ hw d)),OR]
 rw[e]
 by_cases c:T=0
 ·rw[if_pos c,c];exact Ai _
 ·rw[if_neg c];exact Aj c
theorem gM {q:Int} (hq:ag q) (h:ak q=true):ag (neg q)∧ak (neg q)=true∧iV (neg q)=-iV q:=by
 obtain⟨b1,b2⟩:=iW hq h
 have h1:=(bM hq).1 h
 have e:neg q=aG (!decide (q<0)) (rg q):=by
  unfold neg aG rg
  rw[if_neg b1]
  by_cases c:q<0
  ·rw[if_pos c,if_pos c,decide_eq_true c];rfl
  ·rw[if_neg c,if_neg c,decide_eq_false c];rfl
 have h0:0<=rg q:=by unfold rg;unfold ag at hq;split<;>omega
 obtain⟨c1,c2,c3⟩:=eM (ng:=!decide (q<0)) h0 (by omega)
 refine⟨by rw[e];exact c1,by rw[e,ki h0 (by omega)];exact decide_eq_true h1,?_⟩
 rw[e,tB h0 (by omega)]
 unfold iV
 rw[zu]
theorem MS {q:Int} (hq:ag q) (h:ak (neg q)=true):ak q=true:=by
 unfold neg at h
 by_cases c:aH q=4
 ·rw[if_pos c,om] at h;cases h
 ·by_cases ci:rg q=9218868437227405312
  ·exfalso
   rw[if_neg c] at h
   have hr:ag (if q<0 then q+9223372036854775808 else q-9223372036854775808):=by unfold ag at *;split<;>omega
   have:=(bM hr).1 h
   unfold rg at this ci
   split at this<;>split at ci<;>split at this<;>omega
  ·exact mQ hq c ci
theorem bm {q:Int} (hq:ag q):ag (neg q):=by
 unfold neg ag at *
 split
 ·omega
 ·split<;>omega
theorem cI {p q:Int} (hp:ag p) (hq:ag q) (pp:ak p=true) (pq:ak q=true):wN (iV p-iV q) (aF p (neg q)):=by
 obtain⟨a,b,c⟩:=gM hq pq
 have:=il hp a pp b
 rw[c] at this
 exact this
theorem fz {p q:Int} (hp:ag p) (hq:ag q) (h:ak (aF p (neg q))=true):ak p=true∧ak q=true:=by
 obtain⟨a,b⟩:=xW hp (bm hq) h
 exact⟨a,MS hq b⟩
theorem aT {p q:Int} (hp:ag p) (hq:ag q):ag (aF p q):=by
 by_cases h:ak p=true∧ak q=true
 ·exact(il hp hq h.1 h.2).rn
 ·unfold aF
  by_cases c4:aH p=4∨aH q=4
  ·rw[if_pos c4];exact pZ
  rw[if_neg c4]
  by_cases ci:rg p=9218868437227405312
  ·rw[if_pos ci];split
   ·exact pZ
   ·exact hp
  rw[if_neg ci]
  by_cases cj:rg q=9218868437227405312
  ·rw[if_pos cj];exact hq
  exact absurd ⟨mQ hp (fun c=>c4 (.inl c)) ci,mQ hq (fun c=>c4 (.inr c)) cj⟩ h
theorem bc {p q:Int} (hp:ag p) (hq:ag q):ag (aC p q):=by
 unfold aC
 split
 ·exact pZ
 ·split
  ·split
   ·exact pZ
   ·exact(eM (by decide) (by decide)).1
  ·split
   ·exact(eM (by decide) (by decide)).1
   ·rename_i h
    exact(gh (fun c=>h (qB c))).1
def sV (p q:Int):Int:=aF (aF p q) (neg p)
def sL (p q:Int):Int:=aF (aF p (neg (aF (aF p q) (neg (sV p q))))) (aF q (neg (sV p q)))
def fL (p q:Int):Int:=aF q (neg (aF (aF p q) (neg p)))
def cC (p:Int):Int:=aC 4728779608772575232 p
def iX (p:Int):Int:=aF (cC p) (neg (aF (cC p) (neg p)))
def hH (p:Int):Int:=aF p (neg (iX p))
def Dn (a b:Int):Int:=aF (aC a b) (neg (aC (iX a) (iX b)))
def Do (a b:Int):Int:=aF (Dn a b) (neg (aC (hH a) (iX b)))
def Dp (a b:Int):Int:=aF (Do a b) (neg (aC (iX a) (hH b)))
def cw (a b:Int):Int:=aF (aC (hH a) (hH b)) (neg (Dp a b))
theorem dX {w w':World} (h:w'=w∨w'=w.drew):Below w.heap.size w w':=by
 rcases h with rfl|rfl
 ·exact ap _
 ·exact(ap _).drew
theorem wO (x:Nat) (w:World):(convert 59 59 (G7 x)).run prog w=.ok (G7 x) w:=run_convert_float_float w _ _ _ _ _ _ (by rw[underlying59];rfl) underlying59 rfl
theorem JH {p q:Int} {x y:Nat} (hx:FW p x) (hy:FW q y) (w:World) :
  Calls prog 305 #[G7 x,G7 y] w fun e w'=>∃ z u,e=.returned (.tuple #[G7 z,G7 u])∧FW (aF p q) z∧FW (sL p q) u∧Below w.heap.size w w':=by
 obtain⟨z1,w1,e1,f1,d1⟩:=uF (P:=prog) 59 hx hy w
 obtain⟨z2,w2,e2,f2,d2⟩:=dK (P:=prog) 59 f1 hx w1
 obtain⟨z3,w3,e3,f3,d3⟩:=dK (P:=prog) 59 f1 f2 w2
 obtain⟨z4,w4,e4,f4,d4⟩:=dK (P:=prog) 59 hx f3 w3
 obtain⟨z5,w5,e5,f5,d5⟩:=dK (P:=prog) 59 hy f2 w4
 obtain⟨z6,w6,e6,f6,d6⟩:=uF (P:=prog) 59 f4 f5 w5
 have hb:Hid (Below w.heap.size w w6):=ac (ac (ac (ac (ac (dX d1) (dX d2)) (dX d3)) (dX d4)) (dX d5)) (dX d6)
 have H1:Hid (FW (aF p q) z1):=f1
 have H6:Hid (FW (sL p q) z6):=f6
 clear d1 d2 d3 d4 d5 d6 f1 f2 f3 f4 f5 f6 hx hy
 go_enter func305,ntmps305
 go_wp2
 refine bodyPost_ret (v:=.tuple #[G7 z1,G7 z6]) (by simp[results,results305,go_sem]) rfl ⟨z1,z6,rfl,H1.out,H6.out,hb.out⟩
theorem xX {p q:Int} {x y:Nat} (hx:FW p x) (hy:FW q y) (w:World) :
  Calls prog 307 #[G7 x,G7 y] w fun e w'=>∃ z u,e=.returned (.tuple #[G7 z,G7 u])∧FW (aF p q) z∧FW (fL p q) u∧Below w.heap.size w w':=by
 obtain⟨z1,w1,e1,f1,d1⟩:=uF (P:=prog) 59 hx hy w
 obtain⟨z2,w2,e2,f2,d2⟩:=dK (P:=prog) 59 f1 hx w1
 obtain⟨z3,w3,e3,f3,d3⟩:=dK (P:=prog) 59 hy f2 w2
 have hb:Hid (Below w.heap.size w w3):=ac (ac (dX d1) (dX d2)) (dX d3)
 have H1:Hid (FW (aF p q) z1):=f1
 have H6:Hid (FW (fL p q) z3):=f3
 clear d1 d2 d3 f1 f2 f3 hx hy
 go_enter func307,ntmps307
 go_wp2
 refine bodyPost_ret (v:=.tuple #[G7 z1,G7 z3]) (by simp[results,results307,go_sem]) rfl ⟨z1,z3,rfl,H1.out,H6.out,hb.out⟩
theorem nK:ag 4728779608772575232:=by unfold ag;decide
theorem JI:FW 4728779608772575232 4728779608772575232:=.inl ⟨by decide,nK,by decide⟩
theorem vG {p:Int} {x:Nat} (hx:FW p x) (w:World) :
  Calls prog 280 #[G7 x] w fun e w'=>∃ z u,e=.returned (.tuple #[G7 z,G7 u])∧FW (iX p) z∧FW (hH p) u∧Below w.heap.size w w':=by
 obtain⟨z1,w1,e1,f1,d1⟩:=jh (P:=prog) 59 JI hx w
 obtain⟨z2,w2,e2,f2,d2⟩:=dK (P:=prog) 59 f1 hx w1
 obtain⟨z3,w3,e3,f3,d3⟩:=dK (P:=prog) 59 f1 f2 w2
 obtain⟨z4,w4,e4,f4,d4⟩:=dK (P:=prog) 59 hx f3 w3
 have hcv:=wO
 have hb:Hid (Below w.heap.size w w4):=ac (ac (ac (dX d1) (dX d2)) (dX d3)) (dX d4)
 have H1:Hid (FW (iX p) z3):=f3
 have H6:Hid (FW (hH p) z4):=f4
 clear d1 d2 d3 d4 f1 f2 f3 f4 hx
 go_enter func280,ntmps280
 go_wp2
 refine bodyPost_ret (v:=.tuple #[G7 z3,G7 z4]) (by simp[results,results280,go_sem]) rfl ⟨z3,z4,rfl,H1.out,H6.out,hb.out⟩
theorem GC {p q:Int} {x y:Nat} (hx:FW p x) (hy:FW q y) (w:World) :
  Calls prog 239 #[G7 x,G7 y] w fun e w'=>∃ z u,e=.returned (.tuple #[G7 z,G7 u])∧FW (aC p q) z∧FW (cw p q) u∧Below w.heap.size w w':=by
 obtain⟨z1,w1,e1,f1,d1⟩:=jh (P:=prog) 59 hx hy w
 have hcv:=wO
 have Hx:Hid (FW p x):=hx
 have Hy:Hid (FW q y):=hy
 have F1:Hid (FW (aC p q) z1):=f1
 have B1:Hid (Below w.heap.size w w1):=dX d1
 clear hx hy f1 d1
 go_enter func239,ntmps239
 go_wp2_with fail
 refine(vG Hx.out _).mono ?_
 rintro _ w2 ⟨P,Q,rfl,gP,gQ,b2⟩
 have GP:Hid (FW (iX p) P):=gP
 have GQ:Hid (FW (hH p) Q):=gQ
 have B2:Hid (Below w.heap.size w w2):=ac B1.out b2
 clear gP gQ b2 B1 e1
 go_wp2_with fail
 refine(vG Hy.out _).mono ?_
 rintro _ w3 ⟨R,S,rfl,gR,gS,b3⟩
 have hb3:=ac B2.out b3
 obtain⟨z2,w4,e2,f2,d2⟩:=jh (P:=prog) 59 GQ.out gS w3
 obtain⟨z3,w5,e3,f3,d3⟩:=jh (P:=prog) 59 GP.out gR w4
 obtain⟨z4,w6,e4,f4,d4⟩:=dK (P:=prog) 59 F1.out f3 w5
 obtain⟨z5,w7,e5,f5,d5⟩:=jh (P:=prog) 59 GQ.out gR w6
 obtain⟨z6,w8,e6,f6,d6⟩:=dK (P:=prog) 59 f4 f5 w7
 obtain⟨z7,w9,e7,f7,d7⟩:=jh (P:=prog) 59 GP.out gS w8
 obtain⟨z8,wa,e8,f8,d8⟩:=dK (P:=prog) 59 f6 f7 w9
 obtain⟨z9,wb,e9,f9,d9⟩:=dK (P:=prog) 59 f2 f8 wa
 have hb:Hid (Below w.heap.size w wb):=ac (ac (ac (ac (ac (ac (ac (ac hb3 (dX d2)) (dX d3)) (dX d4)) (dX d5)) (dX d6)) (dX d7)) (dX d8)) (dX d9)
 have H9:Hid (FW (cw p q) z9):=f9
 clear d2 d3 d4 d5 d6 d7 d8 d9 f2 f3 f4 f5 f6 f7 f8 f9 gR gS b3 hb3 B2 Hx Hy GP GQ
 go_wp2
 refine bodyPost_ret (v:=.tuple #[G7 z1,G7 z9]) (by simp[results,results239,go_sem]) rfl ⟨z1,z9,rfl,F1.out,H9.out,hb.out⟩
theorem fJ (p:Int):Fl (iV p):=by
 unfold iV
 cases decide (p<0)
 ·exact EC _
 ·exact(EC _).neg
theorem mR (p:Int):((iV p).natAbs:Int)=(V Ieee.double (rg p).toNat:Int):=by
 unfold iV sg
 cases decide (p<0)
 ·simp
 ·simp
theorem GD {p:Int} (hp:ag p) (h:ak p=true):((iV p).natAbs:Int)<=jO:=by
 rw[mR]
 have:=(bM hp).1 h
 exact wM (by omega)
theorem kj {p q:Int} (hp:ag p) (hq:ag q) (h:ak (sL p q)=true):(ak p=true∧ak q=true)∧ak (aF p q)=true∧iV (aF p q)+iV (sL p q)=iV p+iV q:=by
 have rh:=aT hp hq
 have rv:ag (sV p q):=aT rh (bm hp)
 have rU:=aT rh (bm rv)
 have rX:=aT hp (bm rU)
 have rY:=aT hq (bm rv)
 obtain⟨pX,pY⟩:=xW rX rY h
 obtain⟨pp,pU⟩:=fz hp rU pX
 obtain⟨pq,pv⟩:=fz hq rv pY
 obtain⟨ph,_⟩:=fz rh hp pv
 have e:=MO (fJ p) (fJ q) ((il hp hq pp pq).nr ph) ((cI rh hp ph pp).nr pv) ((cI rh rv ph pv).nr pU) ((cI hp rU pp pU).nr pX) ((cI hq rv pq pv).nr pY) ((il rX rY pX pY).nr h)
 exact⟨⟨pp,pq⟩,ph,by unfold sL;omega⟩
theorem wP {p q:Int} (hp:ag p) (hq:ag q) (h:ak (fL p q)=true):(ak p=true∧ak q=true)∧ak (aF p q)=true:=by
 have rh:=aT hp hq
 have rv:ag (aF (aF p q) (neg p)):=aT rh (bm hp)
 obtain⟨pq,pv⟩:=fz hq rv h
 obtain⟨ph,pp⟩:=fz rh hp pv
 exact⟨⟨pp,pq⟩,ph⟩
theorem MT {a b h:Int} (ha:Fl a) (hab:b.natAbs<=a.natAbs) (n:Nr (a+b) h):(h-a).natAbs<=a.natAbs:=by
 have e1:=n.2 _ ha
 have e2:=n.2 _ ha.dbl
 have e3:=n.2 _ dA
 omega
theorem qb {p q:Int} (hp:ag p) (hq:ag q) (pp:ak p=true) (pq:ak q=true) (ph:ak (aF p q)=true) (hab:(iV q).natAbs<=(iV p).natAbs):ak (fL p q)=true∧iV (aF p q)+iV (fL p q)=iV p+iV q:=by
 have rh:=aT hp hq
 have rv:ag (aF (aF p q) (neg p)):=aT rh (bm hp)
 have nh:=(il hp hq pp pq).nr ph
 have sv:=cI rh hp ph pp
 have b1:=MT (fJ p) hab nh
 have pv:=sv.fin (by have:=GD hp pp;omega)
 have ev:=bt (uH (fJ p) (fJ q) hab nh) (sv.nr pv)
 have sl:=cI hq rv pq pv
 have e3:=nh.2 _ (fJ p)
 have pl:=sl.fin (by rw[ev];have:=GD hq pq;omega)
 have nl:=sl.nr pl
 have e4:=JF (fJ p) (fJ q) hab nh (sv.nr pv) nl
 exact⟨pl,by unfold fL;omega⟩
theorem qW {p q:Int} (hp:ag p) (hq:ag q) (pp:ak p=true) (pq:ak q=true):aF p q=if aq p+aq q=0 then aG (decide (p<0)&&decide (q<0)) 0 else bT (aq p+aq q):=by
 obtain⟨a1,a2⟩:=iW hp pp
 obtain⟨b1,b2⟩:=iW hq pq
 unfold aF
 rw[if_neg (fun c=>c.elim a1 b1),if_neg a2,if_neg b2]
theorem xY {p q:Int} (hp:ag p) (hq:ag q) (pp:ak p=true) (pq:ak q=true):aF p q=aF q p:=by
 rw[qW hp hq pp pq,qW hq hp pq pp,Int.add_comm (aq q),Bool.and_comm (decide (q<0))]
def fX (p q:Int):Bool:=ak (fL p q)&&(!decide ((iV p).natAbs<(iV q).natAbs)||decide (iV (fL p q)=iV (fL q p)))
theorem GE {p q:Int} (hp:ag p) (hq:ag q) (h:ak (fL p q)=true):fX p q=decide (iV (aF p q)+iV (fL p q)=iV p+iV q):=by
 obtain⟨⟨pp,pq⟩,ph⟩:=wP hp hq h
 unfold fX
 rw[h,Bool.true_and]
 by_cases c:(iV p).natAbs<(iV q).natAbs
 ·have hc:=xY hp hq pp pq
  obtain⟨k1,k2⟩:=qb hq hp pq pp (by rw[<- hc];exact ph) (by omega)
  rw[<- hc] at k2
  rw[decide_eq_true c]
  show decide _=decide _
  congr 1
  apply propext
  constructor<;>intro g<;>omega
 ·rw[decide_eq_false c]
  have:=(qb hp hq pp pq ph (by omega)).2
  rw[decide_eq_true this]
  rfl
theorem Lp (k:Nat):((2^k:Nat):Int)=2^k:=by simp
theorem QE {K:Nat} {A B:Int} (h:(K:Int)=A) (g:B=33554432*A):(((4503599627370496+33554432)*K:Nat):Int)=134217729*B:=by omega
theorem JJ (i j:Nat):(2:Int)^(i+j)=2^i*2^j:=Int.pow_add _ _ _
theorem EF {k:Nat} (hk:k=1049):V Ieee.double 4728779608772575232=(4503599627370496+33554432)*2^k:=by
 unfold V
 rw[mu,if_neg (by decide),show(4728779608772575232 % 4503599627370496:Nat)=33554432 by decide,show(4728779608772575232/4503599627370496-1:Nat)=k by omega]
theorem BT:iV 4728779608772575232=134217729*2^1074:=by
 obtain⟨k,hk⟩:∃ k:Nat,k=1049:=⟨_,rfl⟩
 rw[show(1074:Nat)=25+k by omega]
 have e3:iV 4728779608772575232=(V Ieee.double 4728779608772575232:Int):=by
  unfold iV
  rw[show(rg 4728779608772575232).toNat=4728779608772575232 by decide,show decide ((4728779608772575232:Int)<0)=false by decide]
  exact Sz _
 have e2:=JJ 25 k
 rw[show(2:Int)^25=33554432 by decide] at e2
 rw[e3,EF hk]
 exact QE (Lp k) e2
structure Dq (a h l:Int):Prop where
 sum:h+l=a
 dvd:∀ k:Nat,(2^k:Int) ∣ a->(2^k:Int) ∣ h
 zero:a=0->h=0
 spl:a≠0->∃ x j:Nat,vF (2^x*a) (2^x*h) j∧4503599627370496*2^j<=((2^x*a).natAbs:Int)∧((2^x*a).natAbs:Int)<9007199254740992*2^j
theorem xZ {p:Int} (hp:ag p) (pp:ak p=true):wN (134217729*iV p) (cC p):=by
 refine fw nK hp (by decide) pp ?_
 rw[BT]
 generalize (2:Int)^1074=k
 rw[<- Int.mul_assoc,Int.mul_comm k]
theorem OS {a c d h l:Int} (ha:Fl a) (nc:Nr (134217729*a) c) (nd:Nr (c-a) d) (nh:Nr (c-d) h) (nl:Nr (a-h) l):Dq a h l:=by
 have dv:∀ k:Nat,(2^k:Int) ∣ a->(2^k:Int) ∣ h:=fun k g=>by
  have g1:=iU nc (Int.dvd_mul_of_dvd_right g)
  have g2:=iU nd (Int.dvd_sub g1 g)
  exact iU nh (Int.dvd_sub g1 g2)
 by_cases h0:a=0
 ·subst h0
  have e1:=bt dA nc
  subst e1
  have e2:=bt dA nd
  subst e2
  have e3:=bt dA nh
  subst e3
  have e4:=bt dA nl
  subst e4
  exact⟨rfl,dv,fun _=>rfl,fun c=>absurd rfl c⟩
 ·obtain⟨e,s⟩:=JG ha h0 nc nd nh nl
  exact⟨by omega,dv,fun c=>absurd c h0,fun _=>s⟩
theorem ly {p:Int} (hp:ag p) (h:ak (hH p)=true):ak p=true∧ak (iX p)=true∧Dq (iV p) (iV (iX p)) (iV (hH p)):=by
 have rc:ag (cC p):=bc nK hp
 have rd:=aT rc (bm hp)
 have rH:ag (iX p):=aT rc (bm rd)
 obtain⟨pp,pH⟩:=fz hp rH h
 obtain⟨pc,pd⟩:=fz rc rd pH
 exact⟨pp,pH,OS (fJ p) ((xZ hp pp).nr pc) ((cI rc hp pc pp).nr pd) ((cI rc rd pc pd).nr pH) ((cI hp rH pp pH).nr h)⟩
theorem yb (n:Nat) (a b:Int):(2^n:Int) ∣ a*b->∃ i j:Nat,i+j=n∧(2^i:Int) ∣ a∧(2^j:Int) ∣ b:=by
 induction n with
 | zero=>intro _;exact⟨0,0,rfl,⟨a,by simp⟩,⟨b,by simp⟩⟩
 | succ n ih=>
  intro h
  obtain⟨i,j,e,⟨c,rfl⟩,⟨d,rfl⟩⟩:=ih (Int.dvd_trans (dI (by omega)) h)
  obtain⟨t,ht⟩:=h
  have e2:(2:Int)^i*c*(2^j*d)=2^n*(c*d):=by
   rw[<- e,Int.pow_add,Int.mul_assoc,Int.mul_assoc];congr 1;rw[<- Int.mul_assoc,<- Int.mul_assoc,Int.mul_comm c]
  rw[e2,fG,Int.mul_comm 2,Int.mul_assoc] at ht
  have e3:c*d=2*t:=Int.eq_of_mul_eq_mul_left (by have:=p2 n;omega) ht
  by_cases hc:c % 2=0
  ·obtain⟨c',rfl⟩:∃ c',c=2*c':=⟨c/2,by omega⟩
   exact⟨i+1,j,by omega,⟨c',by rw[fG,<- Int.mul_assoc,Int.mul_comm (2^i) 2]⟩,⟨d,rfl⟩⟩
  ·have hd:d % 2=0:=by
    have h1:c % 2=1:=by omega
    have h2:(c*d) % 2=0:=by omega
    rw[Int.mul_emod,h1,Int.one_mul] at h2
    omega
   obtain⟨d',rfl⟩:∃ d',d=2*d':=⟨d/2,by omega⟩
   exact⟨i,j+1,by omega,⟨c,rfl⟩,⟨d',by rw[fG,<- Int.mul_assoc,Int.mul_comm (2^j) 2]⟩⟩
theorem nL {x y i:Nat} {T p r:Int} (h:2^i*T=p*r):(2:Int)^(x+y+i)*T=(2^x*p)*(2^y*r):=by
 rw[Int.pow_add,Int.mul_assoc,h,Int.pow_add,Int.mul_assoc,Int.mul_assoc]
 congr 1
 rw[<- Int.mul_assoc,<- Int.mul_assoc,Int.mul_comm (2^y) p]
theorem EG {n:Nat} {a b P Q R S H T t1 t2 t3 l Tpr Tqr Tps Tqs xpr xqr xps xqs:Int} (ha:Dq a P Q) (hb:Dq b R S) (eT:2^n*T=a*b) (e1:2^n*Tpr=P*R) (e2:2^n*Tqr=Q*R) (e3:2^n*Tps=P*S) (e4:2^n*Tqs=Q*S)
  (nH:Nr T H) (n1:Nr Tpr xpr) (m1:Nr (H-xpr) t1) (n2:Nr Tqr xqr) (m2:Nr (t1-xqr) t2) (n3:Nr Tps xps) (m3:Nr (t2-xps) t3) (n4:Nr Tqs xqs) (m4:Nr (xqs-t3) l):l=T-H:=by
 have hn:=p2 n
 by_cases h0:a=0∨b=0
 ·have z0:T=0∧Tpr=0∧Tqr=0∧Tps=0∧Tqs=0:=by
   have s1:=ha.sum
   have s2:=hb.sum
   have cancel:∀ {t:Int},2^n*t=0->t=0:=fun {t} h=>by
    rcases Int.mul_eq_zero.1 h with g|g
    ·omega
    ·exact g
   rcases h0 with c|c
   ·have c1:=ha.zero c
    have c2:Q=0:=by omega
    subst c1 c2 c
    simp only[Int.zero_mul] at eT e1 e2 e3 e4
    exact⟨cancel eT,cancel e1,cancel e2,cancel e3,cancel e4⟩
   ·have c1:=hb.zero c
    have c2:S=0:=by omega
    subst c1 c2 c
    simp only[Int.mul_zero] at eT e1 e2 e3 e4
    exact⟨cancel eT,cancel e1,cancel e2,cancel e3,cancel e4⟩
  obtain⟨rfl,rfl,rfl,rfl,rfl⟩:=z0
  have g1:=bt dA nH
  have g2:=bt dA n1
  have g3:=bt dA n2
  have g4:=bt dA n3
  have g5:=bt dA n4
  subst g1 g2 g3 g4 g5
  have g6:=bt dA m1
  subst g6
  have g7:=bt dA m2
  subst g7
  have g8:=bt dA m3
  subst g8
  exact bt dA m4
 ·obtain⟨x,i,sa,a0,a1⟩:=ha.spl (fun c=>h0 (.inl c))
  obtain⟨y,j,sb,b0,b1⟩:=hb.spl (fun c=>h0 (.inr c))
  have eQ:Q=a-P:=by have:=ha.sum;omega
  have eS:S=b-R:=by have:=hb.sum;omega
  subst eQ eS
  have k0:=fR nH (x+y+n)
  have k1:=fR n1 (x+y+n)
  have k2:=fR m1 (x+y+n)
  have k3:=fR n2 (x+y+n)
  have k4:=fR m2 (x+y+n)
  have k5:=fR n3 (x+y+n)
  have k6:=fR m3 (x+y+n)
  have k7:=fR n4 (x+y+n)
  have k8:=fR m4 (x+y+n)
  rw[nL eT] at k0
  rw[nL e1] at k1
  rw[nL e2] at k3
  rw[nL e3] at k5
  rw[nL e4] at k7
  rw[Int.mul_sub] at k2 k4 k6 k8
  rw[Int.mul_sub (2^x) a P] at k3 k7
  rw[Int.mul_sub (2^y) b R] at k5 k7
  have e:=OO sa sb a0 a1 b0 b1 k0 k1 k2 k3 k4 k5 k6 k7 k8
  rw[<- nL eT,<- Int.mul_sub] at e
  exact Int.eq_of_mul_eq_mul_left (by have:=p2 (x+y+n);omega) e
theorem km {n i j:Nat} {a b:Int} (h:i+j=n) (ha:(2^i:Int) ∣ a) (hb:(2^j:Int) ∣ b):∃ T,2^n*T=a*b:=by
 obtain⟨c,rfl⟩:=ha
 obtain⟨d,rfl⟩:=hb
 refine⟨c*d,?_⟩
 rw[<- h,Int.pow_add,Int.mul_assoc,Int.mul_assoc];congr 1;rw[<- Int.mul_assoc,<- Int.mul_assoc,Int.mul_comm c]
theorem uI {p q:Int} (hp:ag p) (hq:ag q) (h:ak (cw p q)=true):(ak (hH p)=true∧ak (hH q)=true)∧ak (aC p q)=true∧(ak (aC (iX p) (iX q))=true∧ak (Dn p q)=true)∧(ak (aC (hH p) (iX q))=true∧ak (Do p q)=true)∧(ak (aC (iX p) (hH q))=true∧ak (Dp p q)=true)∧ak (aC (hH p) (hH q))=true∧(ag (iX p)∧ag (hH p)∧ag (iX q)∧ag (hH q)∧ag (Dn p q)∧ag (Do p q)∧ag (Dp p q)):=by
 have rsp:∀ {p:Int},ag p->ag (iX p)∧ag (hH p):=fun {p} hp=>by
  have rc:ag (cC p):=bc nK hp
  have rd:=aT rc (bm hp)
  have rH:ag (iX p):=aT rc (bm rd)
  exact⟨rH,aT hp (bm rH)⟩
 obtain⟨rP,rQ⟩:=rsp hp
 obtain⟨rR,rS⟩:=rsp hq
 have rT1:ag (Dn p q):=aT (bc hp hq) (bm (bc rP rR))
 have rT2:ag (Do p q):=aT rT1 (bm (bc rQ rR))
 have rT3:ag (Dp p q):=aT rT2 (bm (bc rP rS))
 obtain⟨pqs,p3⟩:=fz (bc rQ rS) rT3 h
 obtain⟨p2,pps⟩:=fz rT2 (bc rP rS) p3
 obtain⟨p1,pqr⟩:=fz rT1 (bc rQ rR) p2
 obtain⟨ph,ppr⟩:=fz (bc hp hq) (bc rP rR) p1
 exact⟨ED rQ rS pqs,ph,⟨ppr,p1⟩,⟨pqr,p2⟩,⟨pps,p3⟩,pqs,rP,rQ,rR,rS,rT1,rT2,rT3⟩
theorem GF {p q T:Int} (hp:ag p) (hq:ag q) (h:ak (cw p q)=true) (hT:2^1074*T=iV p*iV q):(ak p=true∧ak q=true)∧ak (aC p q)=true∧iV (aC p q)+iV (cw p q)=T:=by
 obtain⟨⟨pQ,pS⟩,ph,⟨ppr,p1⟩,⟨pqr,p2⟩,⟨pps,p3⟩,pqs,rP,rQ,rR,rS,rT1,rT2,rT3⟩:=uI hp hq h
 obtain⟨pp,pP,ha⟩:=ly hp pQ
 obtain⟨pq,pR,hb⟩:=ly hq pS
 have hd:(2^1074:Int) ∣ iV p*iV q:=⟨T,hT.symm⟩
 obtain⟨i,j,eij,di,dj⟩:=yb 1074 _ _ hd
 have dP:=ha.dvd i di
 have dR:=hb.dvd j dj
 have dQ:(2^i:Int) ∣ iV (hH p):=by have:=ha.sum;rw[show iV (hH p)=iV p-iV (iX p) by omega];exact Int.dvd_sub di dP
 have dS:(2^j:Int) ∣ iV (hH q):=by have:=hb.sum;rw[show iV (hH q)=iV q-iV (iX q) by omega];exact Int.dvd_sub dj dR
 obtain⟨Tpr,e1⟩:=km eij dP dR
 obtain⟨Tqr,e2⟩:=km eij dQ dR
 obtain⟨Tps,e3⟩:=km eij dP dS
 obtain⟨Tqs,e4⟩:=km eij dQ dS
 have e:=EG ha hb hT e1 e2 e3 e4 ((fw hp hq pp pq hT).nr ph) ((fw rP rR pP pR e1).nr ppr) ((cI (bc hp hq) (bc rP rR) ph ppr).nr p1) ((fw rQ rR pQ pR e2).nr pqr) ((cI rT1 (bc rQ rR) p1 pqr).nr p2) ((fw rP rS pP pS e3).nr pps) ((cI rT2 (bc rP rS) p2 pps).nr p3) ((fw rQ rS pQ pS e4).nr pqs) ((cI (bc rQ rS) rT3 pqs p3).nr h)
 exact⟨⟨pp,pq⟩,ph,by unfold cw;omega⟩
end Go.Proofs.YtjjihmnbdeeedaaGreatDoor
/-
 Mathematics of whole numbers: a float's whole units,ints as floats,the order of floats in the model.
-/
namespace Go.Proofs.YtjjihmnbdeeedaaGreatDoor.M
open Go Go.Proofs.Tryz Ieee
theorem Dr {a b q:Int} (hq:0<q):compare (a*q) (b*q)=compare a b:=by
 have h1:a*q<b*q↔a<b:=⟨fun h=>Int.lt_of_mul_lt_mul_right h (by omega),fun h=>Int.mul_lt_mul_of_pos_right h hq⟩
 have h2:a*q=b*q↔a=b:=⟨fun h=>Int.eq_of_mul_eq_mul_right (by omega) h,fun h=>by rw[h]⟩
 show compareOfLessAndEq (a*q) (b*q)=compareOfLessAndEq a b
 unfold compareOfLessAndEq
 simp only[h1,h2]
theorem OT {a b:Int}:(some (compare a b) == some Ordering.eq)=decide (a=b):=by
 show(some (compareOfLessAndEq a b) == some Ordering.eq)=_
 unfold compareOfLessAndEq
 by_cases h1:a<b
 ·rw[if_pos h1,decide_eq_false (by omega)];rfl
 ·rw[if_neg h1]
  by_cases h2:a=b
  ·rw[if_pos h2,decide_eq_true (by omega)];rfl
  ·rw[if_neg h2,decide_eq_false (by omega)];rfl
end Go.Proofs.YtjjihmnbdeeedaaGreatDoor.M
namespace Go.Proofs.YtjjihmnbdeeedaaGreatDoor
open Go Go.Proofs.Tryz Go.RowKit Go.Proofs.YtjjihmnbdeeedaaGreatDoor.M Ieee
theorem JK {p q:Int} (hp:ag p) (hq:ag q) (pp:ak p=true) (pq:ak q=true):Ieee.double.order (wd p) (wd q)=some (compare (aq p) (aq q)):=by
 obtain⟨m,u,r1,v1⟩:=dV hp pp
 obtain⟨n,v,r2,v2⟩:=dV hq pq
 unfold Ieee.Format.order
 rw[r1,r2]
 show some (compare (signed (decide (p<0)) m (-1074+(u:Int)-min (-1074+(u:Int)) (-1074+(v:Int))).toNat) (signed (decide (q<0)) n (-1074+(v:Int)-min (-1074+(u:Int)) (-1074+(v:Int))).toNat))=_
 have hb:-4194304<=min (-1074+(u:Int)) (-1074+(v:Int)):=by omega
 have s1:=lv (decide (p<0)) m (-1074+(u:Int)-min (-1074+(u:Int)) (-1074+(v:Int))).toNat (i:=-1074+(u:Int)) (base:=min (-1074+(u:Int)) (-1074+(v:Int))) (by omega) hb
 have s2:=lv (decide (q<0)) n (-1074+(v:Int)-min (-1074+(u:Int)) (-1074+(v:Int))).toNat (i:=-1074+(v:Int)) (base:=min (-1074+(u:Int)) (-1074+(v:Int))) (by omega) hb
 rw[v1,v2,<- s1,<- s2,Dr (bR _)]
end Go.Proofs.YtjjihmnbdeeedaaGreatDoor
namespace Go.Proofs.YtjjihmnbdeeedaaGreatDoor
open Go Go.Proofs.Tryz Go.RowKit Go.Proofs.YtjjihmnbdeeedaaGreatDoor.M Ieee
theorem FW.rng {p:Int} {x:Nat} (h:FW p x):M.ag p:=by
 rcases h with⟨_,h,_⟩|⟨rfl,_⟩
 ·exact h
 ·exact pZ
theorem Ak {p:Int} (hp:M.ag p) (h4:¬ aH p=4):decide (M.neg p<0)=!decide (p<0)∧rg (M.neg p)=rg p∧¬ aH (M.neg p)=4:=by
 have h0:0<=rg p∧rg p<9223372036854775808:=by unfold rg;unfold M.ag at hp;split<;>omega
 have e:rg (M.neg p)=rg p∧decide (M.neg p<0)=!decide (p<0):=by
  unfold M.neg rg
  rw[if_neg h4]
  unfold M.ag at hp
  by_cases c:p<0
  ·rw[if_pos c,decide_eq_true c,if_neg (by omega)]
   exact⟨by rw[if_pos c],decide_eq_false (by omega)⟩
  ·rw[if_neg c,decide_eq_false c,if_pos (by omega)]
   exact⟨by rw[if_neg c];omega,decide_eq_true (by omega)⟩
 refine⟨e.2,e.1,fun c=>?_⟩
 have:=(eZ (bm hp)).1.1 c
 rw[e.1] at this
 exact h4 ((eZ hp).1.2 this)
theorem JL {p:Int} (hp:M.ag p):aF p (M.neg p)=if ak p then 0 else 9221120237041090561:=by
 by_cases c4:aH p=4
 ·have:ak p=false:=by
   cases h:ak p
   ·rfl
   ·exact absurd c4 (iW hp h).1
  rw[this]
  unfold aF
  rw[if_pos (.inl c4)]
  rfl
 ·obtain⟨s1,s2,s3⟩:=Ak hp c4
  cases h:ak p
  ·have hi:rg p=9218868437227405312:=by
    by_cases c:rg p=9218868437227405312
    ·exact c
    ·rw[mQ hp c4 c] at h;cases h
   unfold aF
   rw[if_neg (fun c=>c.elim c4 s3),if_pos hi,if_pos ⟨by rw[s2];exact hi,by rw[s1];cases decide (p<0)<;>decide⟩]
   rfl
  ·obtain⟨n1,n2,n3⟩:=gM hp h
   unfold aF
   rw[if_neg (fun c=>c.elim c4 s3),if_neg (iW hp h).2,if_neg (by rw[s2];exact(iW hp h).2),cQ hp h,cQ n1 n2,n3,if_pos (by rw[<- Int.add_mul,Int.add_right_neg,Int.zero_mul]),s1]
   cases decide (p<0)<;>rfl
theorem EI:Ieee.double.order 0 0=some .eq:=by decide +kernel
theorem EJ {p:Int} {z:Nat} (hp:M.ag p) (hz:FW (aF p (M.neg p)) z):(Ieee.double.order z 0 == some Ordering.eq)=ak p:=by
 rw[JL hp] at hz
 cases h:ak p
 ·rw[h] at hz
  obtain⟨s,t,e⟩:=hz.read_nan ke
  unfold Ieee.Format.order
  rw[e]
  rfl
 ·rw[h] at hz
  obtain⟨_,e,_⟩:=hz.of (by decide)
  have:z=0:=by rw[e];decide
  rw[this,EI]
  rfl
theorem sX {p q:Int} {x y:Nat} (hx:FW p x) (hy:FW q y) (w:World) :
  Calls prog 238 #[G7 x,G7 y] w fun e w'=>e=.returned (.tuple #[G6 p,G6 q,.bool (ak q)])∧Below w.heap.size w w':=by
 have C1:=fun W=>qU hx W
 have C2:=fun W=>qU hy W
 obtain⟨z1,w1,e1,f1,d1⟩:=dK (P:=prog) 59 hy hy w
 have B1:Hid (Below w.heap.size w w1):=dX d1
 have HO:(Ieee.double.order z1 0 == some Ordering.eq)=ak q:=EJ hy.rng f1
 clear d1 f1 hx hy
 generalize ak q=R at HO ⊢
 go_enter func238,ntmps238
 go_wp2_with fail
 refine(C1 _).mono ?_
 rintro _ _ ⟨rfl,rfl⟩
 go_wp2_with fail
 refine(C2 _).mono ?_
 rintro _ _ ⟨rfl,rfl⟩
 have HO2:(FloatKind.f64.format.order z1 0 == some Ordering.eq)=R:=HO
 go_wp2
 refine bodyPost_ret (v:=.tuple #[G6 p,G6 q,.bool R]) (by simp[results,results238,go_sem,HO2]) rfl ⟨rfl,B1.out⟩
theorem vH {a b:Int} (ha:M.ag a) (hb:M.ag b) (w:World) :
  Calls prog 262 #[G6 a,G6 b] w fun e w'=>e=.returned (.tuple #[G6 (aF (aY a) (aY b)),G6 (sL (aY a) (aY b)),.bool (ak (sL (aY a) (aY b)))])∧Below w.heap.size w w':=by
 have C1:=fun W=>bU a W
 have C2:=fun W=>bU b W
 have FA:Hid (FW (aY a) (wd a)):=lx ha
 have FB:Hid (FW (aY b) (wd b)):=lx hb
 generalize aY a=p at *
 generalize aY b=q at *
 generalize wd a=x at *
 generalize wd b=y at *
 go_enter func262,ntmps262
 go_wp2_with fail
 refine(C1 _).mono ?_
 rintro _ _ ⟨rfl,rfl⟩
 go_wp2_with fail
 refine(C2 _).mono ?_
 rintro _ _ ⟨rfl,rfl⟩
 go_wp2_with fail
 refine(JH FA.out FB.out _).mono ?_
 rintro _ w1 ⟨z,u,rfl,g1,g2,b1⟩
 have G1:Hid (FW (aF p q) z):=g1
 have G2:Hid (FW (sL p q) u):=g2
 clear g1 g2
 go_wp2_with fail
 refine(sX G1.out G2.out _).mono ?_
 rintro _ w2 ⟨rfl,b2⟩
 go_wp2
 refine bodyPost_ret (v:=.tuple #[G6 (aF p q),G6 (sL p q),.bool (ak (sL p q))]) (by simp[results,results262,go_sem]) rfl ⟨rfl,ac b1 b2⟩
theorem BU {a b:Int} (ha:M.ag a) (hb:M.ag b) (w:World) (L:lL w) :
  Calls prog 210 #[G6 a,G6 b] w fun e w'=>e=.returned (.tuple #[G6 (aF (aY a) (aY (M.neg b))),G6 (sL (aY a) (aY (M.neg b))),.bool (ak (sL (aY a) (aY (M.neg b))))])∧Below w.heap.size w w':=by
 have C1:=Mg b w L hb
 have C2:=fun W=>vH ha (bm hb) W
 generalize M.neg b=c at *
 generalize aY a=p at *
 generalize aY c=q at *
 go_enter func210,ntmps210
 go_wp2_with fail
 refine C1.mono ?_
 rintro _ w1 ⟨rfl,g1⟩
 have b1:=g1.be
 clear g1
 go_wp2_with fail
 refine(C2 _).mono ?_
 rintro _ w2 ⟨rfl,b2⟩
 go_wp2
 refine bodyPost_ret (v:=.tuple #[G6 (aF p q),G6 (sL p q),.bool (ak (sL p q))]) (by simp[results,results210,go_sem]) rfl ⟨rfl,ac b1 b2⟩
end Go.Proofs.YtjjihmnbdeeedaaGreatDoor
/-
 Package eft: math.Abs,FastTwoSum,reachable,TwoProd,by their contracts.
-/
namespace Go.Proofs.YtjjihmnbdeeedaaGreatDoor
open Go Go.Proofs.Tryz Go.RowKit Go.Proofs.YtjjihmnbdeeedaaGreatDoor.M Ieee
theorem Al (x y:Int):bits .andNot .u64 x y=IntKind.u64.wrap (((x % 18446744073709551616).toNat &&& (18446744073709551615-(y % 18446744073709551616).toNat):Nat):Int):=by
 show IntKind.u64.wrap (((BitVec.ofInt 64 x &&& ~~~ BitVec.ofInt 64 y).toNat:Nat):Int)=_
 rw[BitVec.toNat_and,BitVec.toNat_not,cY,cY]
theorem JM {p:Int} (hp:M.ag p):bits .andNot .u64 ((wd p:Nat):Int) 9223372036854775808=((wd (rg p):Nat):Int):=by
 rw[Al,show(18446744073709551615-((9223372036854775808:Int) % 18446744073709551616).toNat)=2^63-1 from by decide,IntKind.wrap_u64,Nat.and_two_pow_sub_one_eq_mod]
 unfold wd rg M.ag at *
 have e:(2:Nat)^63=9223372036854775808:=by decide
 rw[e]
 split<;>omega
theorem Am {p:Int} (hp:M.ag p) (w:World) :
  Calls prog 34 #[G7 (wd p)] w fun e w'=>e=.returned (G7 (wd (rg p)))∧w'=w:=by
 have h1:=gB
 have h2:=jt
 have h3:=JM hp
 generalize wd (rg p)=z at *
 generalize wd p=x at *
 go_enter func34,ntmps34
 go_wp2
 go_ret
 exact⟨by simp,rfl⟩
theorem Ao {p:Int} (hp:M.ag p) (h:ak p=true):M.ag (rg p)∧ak (rg p)=true∧iV (rg p)=((iV p).natAbs:Int):=by
 have h1:=(bM hp).1 h
 have h0:0<=rg p:=by unfold rg;unfold M.ag at hp;split<;>omega
 have e:rg p=aG false (rg p):=rfl
 obtain⟨a,b,c⟩:=eM (ng:=false) h0 (by omega)
 rw[<- e] at a
 refine⟨a,?_,?_⟩
 ·rw[e,ki h0 (by omega)];exact decide_eq_true h1
 ·rw[mR]
  have:=tB (ng:=false) h0 (show rg p<=9218868437227405312 by omega)
  rw[<- e] at this
  rw[this]
  rfl
theorem GG {p q:Int} (hp:M.ag p) (hq:M.ag q) (pp:ak p=true) (pq:ak q=true):Ieee.double.order (wd p) (wd q)=some (compare (iV p) (iV q)):=by
 rw[JK hp hq pp pq,cQ hp pp,cQ hq pq,Dr (bR _)]
theorem OU {a b:Int}:(some (compare a b) == some Ordering.lt)=decide (a<b):=by
 show(some (compareOfLessAndEq a b) == some Ordering.lt)=_
 unfold compareOfLessAndEq
 by_cases h1:a<b
 ·rw[if_pos h1,decide_eq_true h1];rfl
 ·rw[if_neg h1,decide_eq_false h1]
  split<;>rfl
theorem GH {p q:Int} (hp:M.ag p) (hq:M.ag q) (pp:ak p=true) (pq:ak q=true):(Ieee.double.order (wd (rg p)) (wd (rg q)) == some Ordering.lt)=decide ((iV p).natAbs<(iV q).natAbs):=by
 obtain⟨a1,a2,a3⟩:=Ao hp pp
 obtain⟨b1,b2,b3⟩:=Ao hq pq
 rw[GG a1 b1 a2 b2,OU,a3,b3]
 congr 1
 apply propext
 omega
theorem Ap {a:Int} (h:ak (aY a)=true):aY a=a:=by
 unfold aY at *
 by_cases c:aH a=4
 ·rw[if_pos c,om] at h;cases h
 ·rw[if_neg c]
theorem FW.fin {p:Int} {x:Nat} (h:FW p x) (g:ak p=true):x=wd p:=by
 rcases h with⟨_,_,h⟩|⟨rfl,_⟩
 ·exact h
 ·rw[om] at g;cases g
theorem wQ {a b:Int} (ha:M.ag a) (hb:M.ag b) (w:World) :
  Calls prog 269 #[G6 a,G6 b] w fun e w'=>e=.returned (.tuple #[G6 (aF (aY a) (aY b)),G6 (fL (aY a) (aY b)),.bool (fX (aY a) (aY b))])∧Below w.heap.size w w':=by
 have C1:=fun W=>bU a W
 have C2:=fun W=>bU b W
 have FA:Hid (FW (aY a) (wd a)):=lx ha
 have FB:Hid (FW (aY b) (wd b)):=lx hb
 generalize aY a=p at *
 generalize aY b=q at *
 generalize wd a=x at *
 generalize wd b=y at *
 obtain⟨X,hX0⟩:∃ X,fX p q=X:=⟨_,rfl⟩
 have HX:Hid (fX p q=X):=hX0
 rw[hX0]
 clear hX0
 go_enter func269,ntmps269
 go_wp2_with fail
 refine(C1 _).mono ?_
 rintro _ _ ⟨rfl,rfl⟩
 go_wp2_with fail
 refine(C2 _).mono ?_
 rintro _ _ ⟨rfl,rfl⟩
 go_wp2_with fail
 refine(xX FA.out FB.out _).mono ?_
 rintro _ w1 ⟨z,u,rfl,g1,g2,b1⟩
 have G1:Hid (FW (aF p q) z):=g1
 have G2:Hid (FW (fL p q) u):=g2
 clear g1 g2 C1 C2
 go_wp2_with fail
 refine(sX G1.out G2.out _).mono ?_
 rintro _ w2 ⟨rfl,b2⟩
 have hb2:=ac b1 b2
 have hp:=FA.out.rng
 have hq:=FB.out.rng
 cases hl:ak (fL p q)
 ·have hx:X=false:=by rw[<- HX.out];unfold fX;rw[hl];rfl
  subst hx
  clear HX
  clear G1 G2 FA FB hp hq
  go_wp2
  all_goals refine bodyPost_ret (v:=.tuple #[G6 (aF p q),G6 (fL p q),.bool false]) (by simp[results,results269,go_sem]) rfl ⟨rfl,hb2⟩
 ·obtain⟨⟨pp,pq⟩,ph⟩:=wP hp hq hl
  have ex:=FA.out.fin pp
  have ey:=FB.out.fin pq
  have eu:=G2.out.fin hl
  subst ex ey eu
  have A1:=fun W=>Am hp W
  have A2:=fun W=>Am hq W
  have HO:(FloatKind.f64.format.order (wd (rg p)) (wd (rg q)) == some Ordering.lt)=decide ((iV p).natAbs<(iV q).natAbs):=GH hp hq pp pq
  by_cases c:(iV p).natAbs<(iV q).natAbs
  ·have hc:=xY hp hq pp pq
   obtain⟨k1,k2⟩:=qb hq hp pq pp (by rw[<- hc];exact ph) (by omega)
   have hfl:M.ag (fL p q):=by unfold fL;exact aT hq (bm (aT (aT hp hq) (bm hp)))
   have hfl2:M.ag (fL q p):=by unfold fL;exact aT hp (bm (aT (aT hq hp) (bm hq)))
   have HE:(FloatKind.f64.format.order (wd (fL p q)) (wd (fL q p)) == some Ordering.eq)=decide (iV (fL p q)=iV (fL q p)):=by
    show(Ieee.double.order (wd (fL p q)) (wd (fL q p)) == some Ordering.eq)=_
    rw[GG hfl hfl2 hl k1,OT]
   have hx:X=decide (iV (fL p q)=iV (fL q p)):=by rw[<- HX.out];unfold fX;rw[hl,decide_eq_true c];rfl
   rw[<- hx] at HE
   clear HX hx
   rw[decide_eq_true c] at HO
   have K1:Hid (ak (fL q p)=true):=k1
   clear hc k2 G1 hfl hfl2
   generalize wd (rg p)=xa at *
   generalize wd (rg q)=ya at *
   go_wp2_with fail
   refine(A1 _).mono ?_
   rintro _ _ ⟨rfl,rfl⟩
   go_wp2_with fail
   refine(A2 _).mono ?_
   rintro _ _ ⟨rfl,rfl⟩
   go_wp2_with fail
   refine(xX FB.out FA.out _).mono ?_
   rintro _ w3 ⟨z3,u3,rfl,g3,g4,b3⟩
   have e4:=g4.fin K1.out
   subst e4
   have hb3:=ac hb2 b3
   clear g3 g4
   go_wp2
   all_goals refine bodyPost_ret (v:=.tuple #[G6 (aF p q),G6 (fL p q),.bool X]) (by simp[results,results269,go_sem,HE]) rfl ⟨rfl,hb3⟩
  ·have hx:X=true:=by rw[<- HX.out];unfold fX;rw[hl,decide_eq_false c];rfl
   subst hx
   clear HX
   rw[decide_eq_false c] at HO
   clear G1
   generalize wd (rg p)=xa at *
   generalize wd (rg q)=ya at *
   go_wp2_with fail
   refine(A1 _).mono ?_
   rintro _ _ ⟨rfl,rfl⟩
   go_wp2_with fail
   refine(A2 _).mono ?_
   rintro _ _ ⟨rfl,rfl⟩
   go_wp2
   all_goals refine bodyPost_ret (v:=.tuple #[G6 (aF p q),G6 (fL p q),.bool true]) (by simp[results,results269,go_sem]) rfl ⟨rfl,hb2⟩
end Go.Proofs.YtjjihmnbdeeedaaGreatDoor
namespace Go.Proofs.YtjjihmnbdeeedaaGreatDoor
open Go Go.Proofs.Tryz Go.RowKit Go.Proofs.YtjjihmnbdeeedaaGreatDoor.M Ieee
theorem yd (mag:Int) (h0:0<mag) (h:mag<9223372036854775808) (w:World) (hT:jS w) :
  Calls prog 244 #[.int .u64 mag] w fun e w'=>e=.returned (G6 (jz mag))∧w'=w:=by
 go_enter func244,ntmps244
 go_wp2_with fail
 refine(mN mag h0 h _ hT).mono ?_
 rintro _ _ ⟨rfl,rfl⟩
 go_wp2
 go_ret
 exact⟨rfl,rfl⟩
theorem yh (x:Int) (h0:0<x) (h1:x<9223372036854775808) (w:World) (hT:jS w) :
  Calls prog 281 #[G6 x] w fun e w'=>e=.returned (G6 (jz x))∧w'=w:=by
 have u1:IntKind.u64.wrap x=x:=by rw[IntKind.wrap_u64];omega
 have C:=fun W (T:jS W)=>yd x h0 h1 W T
 go_enter func281,ntmps281
 go_wp2_with fail
 refine(C _ hT).mono ?_
 rintro _ _ ⟨rfl,rfl⟩
 go_wp2
 go_ret
 exact⟨rfl,rfl⟩
def qY (a b:Int):Bool:=decide (aN a=0)||decide (aN b=0)||decide (-1074<=bh a+jz (aN a)+bh b+jz (aN b))
end Go.Proofs.YtjjihmnbdeeedaaGreatDoor
namespace Go.Proofs.YtjjihmnbdeeedaaGreatDoor
open Go Go.Proofs.Tryz Go.RowKit Go.Proofs.YtjjihmnbdeeedaaGreatDoor.M Ieee
theorem yO {a b:Int} (pa:ak a=true) (pb:ak b=true) (w:World) (H:aO w) :
  Calls prog 240 #[G6 a,G6 b] w fun e w'=>e=.returned (.bool (qY a b))∧Below w.heap.size w w':=by
 have C1:=lQ a w H.lay
 have C2:Hid (∀ W,Below w.heap.size w W->_):=fun W hb=>lQ b W (H.keeps hb).lay
 have HT:Hid (∀ W,Below w.heap.size w W->jS W):=fun W hb=>(H.keeps hb).env.tab
 obtain⟨a0,a1,a2,a3⟩:=eY pa
 obtain⟨b0,b1,b2,b3⟩:=eY pb
 have Z1:Hid (aN a≠0->∀ W,Below w.heap.size w W->Calls prog 281 #[G6 (aN a)] W fun e w'=>e=.returned (G6 (jz (aN a)))∧w'=W):=fun h W hb=>yh _ (by omega) (by omega) W (HT.out W hb)
 have Z2:Hid (aN b≠0->∀ W,Below w.heap.size w W->Calls prog 281 #[G6 (aN b)] W fun e w'=>e=.returned (G6 (jz (aN b)))∧w'=W):=fun h W hb=>yh _ (by omega) (by omega) W (HT.out W hb)
 have z1:aN a≠0->jz (aN a)<63:=fun h=>by obtain⟨_,_,g,_⟩:=fF (mag:=aN a) (by omega) (by omega);exact g
 have z2:aN b≠0->jz (aN b)<63:=fun h=>by obtain⟨_,_,g,_⟩:=fF (mag:=aN b) (by omega) (by omega);exact g
 unfold qY
 clear HT H
 generalize jz (aN a)=j at *
 generalize jz (aN b)=k at *
 generalize aN a=m at *
 generalize aN b=n at *
 generalize bh a=x at *
 generalize bh b=y at *
 generalize dW a=s at *
 generalize dW b=t at *
 go_enter func240,ntmps240
 go_wp2_with fail
 refine C1.mono ?_
 rintro _ w1 ⟨rfl,g1⟩
 go_wp2_with fail
 refine(C2.out _ g1).mono ?_
 rintro _ w2 ⟨rfl,g2⟩
 have hb2:=ac g1 g2
 clear C1 C2 g1 g2
 by_cases hm:m=0
 ·subst hm
  go_wp2
  all_goals go_ret
  all_goals exact⟨by simp,hb2⟩
 ·by_cases hn:n=0
  ·subst hn
   go_wp2
   all_goals go_ret
   all_goals exact⟨by simp,hb2⟩
  ·have Z1:=Z1.out hm w2 hb2
   have Z2:=Z2.out hn w2 hb2
   have j1:=z1 hm
   have k1:=z2 hn
   have u1:IntKind.i64.wrap (x+(j:Int))=x+j:=by rw[bK];omega
   have u2:IntKind.i64.wrap (x+(j:Int)+y)=x+j+y:=by rw[bK];omega
   have u3:IntKind.i64.wrap (x+(j:Int)+y+(k:Int))=x+j+y+k:=by rw[bK];omega
   by_cases hr:-1074<=x+(j:Int)+y+(k:Int)
   ·go_wp2_with (first|(go_at_call 281;first|(refine Z1.mono ?_;rintro _ _ ⟨rfl,rfl⟩)|(refine Z2.mono ?_;rintro _ _ ⟨rfl,rfl⟩)))
    all_goals go_ret
    all_goals exact⟨by simp[hr],by first|exact hb2|exact hb2.drew⟩
   ·go_wp2_with (first|(go_at_call 281;first|(refine Z1.mono ?_;rintro _ _ ⟨rfl,rfl⟩)|(refine Z2.mono ?_;rintro _ _ ⟨rfl,rfl⟩)))
    all_goals go_ret
    all_goals exact⟨by simp[hm,hn,hr],by first|exact hb2|exact hb2.drew⟩
def pX (p q:Int):Bool:=ak (cw p q)&&qY p q
theorem BV {a b:Int} (ha:M.ag a) (hb:M.ag b) (w:World) (H:aO w) :
  Calls prog 182 #[G6 a,G6 b] w fun e w'=>e=.returned (.tuple #[G6 (aC (aY a) (aY b)),G6 (cw (aY a) (aY b)),.bool (pX (aY a) (aY b))])∧Below w.heap.size w w':=by
 have C1:=fun W=>bU a W
 have C2:=fun W=>bU b W
 have FA:Hid (FW (aY a) (wd a)):=lx ha
 have FB:Hid (FW (aY b) (wd b)):=lx hb
 have HH:Hid (aO w):=H
 have TA:Hid (ak (aY a)=true->aY a=a):=Ap
 have TB:Hid (ak (aY b)=true->aY b=b):=Ap
 clear H
 generalize aY a=p at *
 generalize aY b=q at *
 generalize wd a=x at *
 generalize wd b=y at *
 obtain⟨X,hX0⟩:∃ X,pX p q=X:=⟨_,rfl⟩
 have HX:Hid (pX p q=X):=hX0
 rw[hX0]
 clear hX0
 go_enter func182,ntmps182
 go_wp2_with fail
 refine(C1 _).mono ?_
 rintro _ _ ⟨rfl,rfl⟩
 go_wp2_with fail
 refine(C2 _).mono ?_
 rintro _ _ ⟨rfl,rfl⟩
 go_wp2_with fail
 refine(GC FA.out FB.out _).mono ?_
 rintro _ w1 ⟨z,u,rfl,g1,g2,b1⟩
 have G1:Hid (FW (aC p q) z):=g1
 have G2:Hid (FW (cw p q) u):=g2
 clear g1 g2 C1 C2
 go_wp2_with fail
 refine(sX G1.out G2.out _).mono ?_
 rintro _ w2 ⟨rfl,b2⟩
 have hb2:=ac b1 b2
 have hp:=FA.out.rng
 have hq:=FB.out.rng
 cases hl:ak (cw p q)
 ·have hx:X=false:=by rw[<- HX.out];unfold pX;rw[hl];rfl
  subst hx
  clear G1 G2 FA FB hp hq HX
  go_wp2
  all_goals refine bodyPost_ret (v:=.tuple #[G6 (aC p q),G6 (cw p q),.bool false]) (by simp[results,results182,go_sem]) rfl ⟨rfl,hb2⟩
 ·have hx:X=qY p q:=by rw[<- HX.out];unfold pX;rw[hl];rfl
  obtain⟨⟨pQ,pS⟩,_⟩:=uI hp hq hl
  have pp:=(ly hp pQ).1
  have pq:=(ly hq pS).1
  have ea:=TA.out pp
  have eb:=TB.out pq
  have CR:=yO (a:=p) (b:=q) pp pq w2 (HH.out.keeps hb2)
  rw[<- hx] at CR
  subst ea eb
  clear G1 G2 FA FB hp hq HX pQ pS pp pq hx TA TB
  go_wp2_with fail
  refine CR.mono ?_
  rintro _ w3 ⟨rfl,b3⟩
  go_wp2
  all_goals refine bodyPost_ret (v:=.tuple #[G6 (aC p q),G6 (cw p q),.bool X]) (by simp[results,results182,go_sem]) rfl ⟨rfl,ac hb2 b3⟩
theorem MU {s n:Nat} {t:Int} (h:(2^n:Int) ∣ 2^s*(2*t+1)):n<=s:=by
 rcases Nat.lt_or_ge s n with c|c
 ·exfalso
  obtain⟨d,rfl⟩:∃ d,n=s+1+d:=⟨n-s-1,by omega⟩
  obtain⟨e,he⟩:=h
  rw[Int.pow_add,fG,show(2:Int)*2^s*2^d*e=2^s*(2*(2^d*e)) by ac_rfl] at he
  have:=Int.eq_of_mul_eq_mul_left (by have:=p2 s;omega) he
  generalize (2:Int)^d*e=f at this
  omega
 ·exact c
theorem kE {p:Int} (hp:ag p) (h:ak p=true):((iV p).natAbs:Int)=aN p*2^(bh p+1074).toNat:=by
 have h0:=(eY h).1
 rw[mR,Oi hp h,wL,Int.toNat_of_nonneg h0,Int.mul_comm]
theorem GJ {m:Nat} {mag:Int} {j e:Nat} (h:mag=2^j*(2*m+1)):mag*2^e=2^(j+e)*(2*(m:Int)+1):=by
 rw[h,Int.pow_add,Int.mul_assoc,Int.mul_assoc,Int.mul_comm (2*(m:Int)+1)]
theorem MV (i j:Nat) (a b:Int):2^i*(2*a+1)*(2^j*(2*b+1))=2^(i+j)*(2*(2*a*b+a+b)+1):=by
 have e:(2*a+1)*(2*b+1)=2*(2*a*b+a+b)+1:=by
  rw[Int.add_mul,Int.mul_add,Int.one_mul,Int.mul_one,Int.mul_add,Int.mul_add]
  have:2*a*(2*b)=2*(2*a*b):=by ac_rfl
  omega
 rw[<- e,Int.pow_add]
 generalize 2*a+1=A
 generalize 2*b+1=B
 ac_rfl
theorem GK {a b:Int} (ha:ag a) (hb:ag b) (pa:ak a=true) (pb:ak b=true):qY a b=true↔∃ T,2^1074*T=iV a*iV b:=by
 have fa:=kE ha pa
 have fb:=kE hb pb
 obtain⟨a0,a1,a2,a3⟩:=eY pa
 obtain⟨b0,b1,b2,b3⟩:=eY pb
 unfold qY
 by_cases hm:aN a=0
 ·rw[hm] at fa ⊢
  have:iV a=0:=by rw[Int.zero_mul] at fa;omega
  rw[this]
  exact⟨fun _=>⟨0,by rw[Int.mul_zero,Int.zero_mul]⟩,fun _=>rfl⟩
 by_cases hn:aN b=0
 ·rw[hn] at fb ⊢
  have:iV b=0:=by rw[Int.zero_mul] at fb;omega
  rw[this]
  exact⟨fun _=>⟨0,by rw[Int.mul_zero,Int.mul_zero]⟩,fun _=>by simp⟩
 obtain⟨m,m1,m2,_⟩:=fF (mag:=aN a) (by omega) (by omega)
 obtain⟨n,n1,n2,_⟩:=fF (mag:=aN b) (by omega) (by omega)
 rw[decide_eq_false hm,decide_eq_false hn,Bool.false_or,Bool.false_or,decide_eq_true_iff]
 rw[GJ m1] at fa
 rw[GJ n1] at fb
 have hd:(∃ T,2^1074*T=iV a*iV b)↔(2^1074:Int) ∣ ((iV a).natAbs:Int)*((iV b).natAbs:Int):=by
  rw[<- Int.natCast_mul,<- Int.natAbs_mul,Int.dvd_natAbs]
  exact⟨fun ⟨T,h⟩=>⟨T,h.symm⟩,fun ⟨T,h⟩=>⟨T,h.symm⟩⟩
 rw[hd,fa,fb,MV]
 constructor
 ·intro h
  exact Int.dvd_trans (dI (by omega)) ⟨_,rfl⟩
 ·intro h
  have:=MU h
  omega
end Go.Proofs.YtjjihmnbdeeedaaGreatDoor
namespace Go.Proofs.YtjjihmnbdeeedaaGreatDoor
open Go Go.Proofs.Tryz Go.RowKit Go.Proofs.YtjjihmnbdeeedaaGreatDoor.M
end Go.Proofs.YtjjihmnbdeeedaaGreatDoor
namespace Go.Proofs.YtjjihmnbdeeedaaGreatDoor
open Go Go.Proofs.Tryz Go.RowKit Go.Proofs.YtjjihmnbdeeedaaGreatDoor.M Ieee
theorem JN {W : World} (h : laidMetH Tryz.prog [("math/bits.deBruijn32tab", Rows.laid_math_bits_deBruijn32tab), ("math/bits.deBruijn64tab", Rows.laid_math_bits_deBruijn64tab), ("plumb/bits.binary64", Rows.laid_plumb_bits_binary64)] W) : aO W := by
 have k:=ME h
 exact⟨k.lay,k.tab,⟨⟨k.lay.a0,k.lay.a1,k.lay.a2,trivial,trivial,trivial⟩,k.tab⟩⟩
theorem nM {a:Int} (h:ak a=true) (ha:M.ag a):aY a=a:=by
 unfold aY;rw[if_neg (iW ha h).1]
theorem kT {p q:Int} (hp:M.ag p) (hq:M.ag q):M.ag (sL p q):=by
 have rh:=aT hp hq
 have rv:M.ag (sV p q):=aT rh (bm hp)
 exact aT (aT hp (bm (aT rh (bm rv)))) (aT hq (bm rv))
theorem Aq {p q:Int} (hp:M.ag p) (hq:M.ag q):M.ag (fL p q):=aT hq (bm (aT (aT hp hq) (bm hp)))
theorem vI {p:Int} (hp:M.ag p):M.ag (iX p)∧M.ag (hH p):=by
 have rc:M.ag (cC p):=bc nK hp
 have rd:=aT rc (bm hp)
 have rH:M.ag (iX p):=aT rc (bm rd)
 exact⟨rH,aT hp (bm rH)⟩
theorem iY {p q:Int} (hp:M.ag p) (hq:M.ag q):M.ag (cw p q):=by
 obtain⟨rP,rQ⟩:=vI hp
 obtain⟨rR,rS⟩:=vI hq
 have rT1:M.ag (Dn p q):=aT (bc hp hq) (bm (bc rP rR))
 have rT2:M.ag (Do p q):=aT rT1 (bm (bc rQ rR))
 have rT3:M.ag (Dp p q):=aT rT2 (bm (bc rP rS))
 exact aT (bc rQ rS) (bm rT3)
end Go.Proofs.YtjjihmnbdeeedaaGreatDoor
namespace Go.Proofs.YtjjihmnbdeeedaaGreatDoor
open Go Go.Proofs.Tryz Go.RowKit Go.Proofs.YtjjihmnbdeeedaaGreatDoor.M
structure Ls where
 n:Nat
 d:Nat->Int
def Ls.add (s:Ls) (b:Int):Ls:=if rg b=0 then s else ⟨s.n+1,cr s.d s.n b⟩
theorem Ls.add_le (s:Ls) (b:Int):s.n<=(s.add b).n∧(s.add b).n<=s.n+1:=by
 unfold Ls.add
 split
 ·exact⟨Nat.le_refl _,Nat.le_succ _⟩
 ·exact⟨Nat.le_succ _,Nat.le_refl _⟩
def Ls.same (s t:Ls):Prop:=s.n=t.n∧∀ i,i<s.n->s.d i=t.d i
theorem Ls.same.add {s t:Ls} (h:s.same t) (b:Int):(s.add b).same (t.add b):=by
 unfold Ls.add
 split
 ·exact h
 ·refine⟨by show s.n+1=t.n+1;rw[h.1],fun i hi=>?_⟩
  show cr s.d s.n b i=cr t.d t.n b i
  by_cases e:i=s.n
  ·subst e;rw[bG,h.1,bG]
  ·rw[bg _ _ e,bg _ _ (by rw[<- h.1];exact e)]
   exact h.2 i (by have:i<s.n+1:=hi;omega)
def gq (d:Nat->Int) (q:Int):Nat->Int
 | 0=>q
 | k+1=>aF (gq d q k) (d k)
def gl (d:Nat->Int) (q:Int) (k:Nat):Int:=sL (gq d q k) (d k)
def gs (d:Nat->Int) (q:Int):Nat->Ls
 | 0=>⟨0,d⟩
 | k+1=>(gs d q k).add (gl d q k)
def gx (d:Nat->Int) (q:Int):Nat->Bool
 | 0=>true
 | k+1=>gx d q k&&ak (gl d q k)
def iZ (n:Nat) (d:Nat->Int) (q:Int):Ls:=(gs d q n).add (gq d q n)
theorem vJ (d:Nat->Int) (q:Int):∀ k,(gs d q k).n<=k
 | 0=>Nat.le_refl _
 | k+1=>by
  have h1:=vJ d q k
  have h2:=((gs d q k).add_le (gl d q k)).2
  show((gs d q k).add _).n<=k+1
  omega
theorem tC (d:Nat->Int) (q:Int):∀ k i,k<=i->(gs d q k).d i=d i
 | 0,i,_=>rfl
 | k+1,i,h=>by
  have h1:=vJ d q k
  show((gs d q k).add _).d i=d i
  unfold Ls.add
  split
  ·exact tC d q k i (by omega)
  ·show cr _ _ _ i=d i
   rw[bg _ _ (by omega)]
   exact tC d q k i (by omega)
theorem wR {d:Nat->Int} {q:Int}:∀ {k j},j<=k->gx d q k=true->gx d q j=true
 | 0,j,h,hx=>by
  obtain rfl:j=0:=by omega
  rfl
 | k+1,j,h,hx=>by
  by_cases e:j=k+1
  ·subst e;exact hx
  ·have:(gx d q k&&ak (gl d q k))=true:=hx
   rw[Bool.and_eq_true] at this
   exact wR (by omega) this.1
theorem kU {d:Nat->Int} {q:Int} {n:Nat} (hd:∀ i,i<n->ag (d i)∧ak (d i)=true) (hq:ag q) (pq:ak q=true):∀ k,k<=n->gx d q k=true->ag (gq d q k)∧ak (gq d q k)=true
 | 0,_,_=>⟨hq,pq⟩
 | k+1,hk,hx=>by
  have hx':(gx d q k&&ak (gl d q k))=true:=hx
  rw[Bool.and_eq_true] at hx'
  obtain⟨r1,r2⟩:=kU hd hq pq k (by omega) hx'.1
  obtain⟨d1,d2⟩:=hd k (by omega)
  exact⟨aT r1 d1,(kj r1 d1 hx'.2).2.1⟩
theorem Ar {b:Int} (hb:ag b):(FloatKind.f64.format.order (wd b) 0 == some .eq)=decide (rg b=0):=by
 have h:=qr hb (show ag 0 by unfold ag;omega)
 rw[show wd 0=0 by decide] at h
 rw[h]
 unfold gT
 have hk:au 0=0:=by decide
 have c0:¬ aH 0=4:=by decide
 by_cases h4:aH b=4
 ·have:rg b≠0:=fun e=>by
   have:=oO hb
   rw[e] at this
   rw[<- this] at h4
   exact c0 h4
  simp[h4,this]
 ·have e:(au b=au 0)↔rg b=0:=by
   rw[hk]
   unfold ag at hb
   unfold au rg
   split<;>omega
  by_cases hz:rg b=0
  ·simp[h4,c0,hz,e.2 hz]
  ·have:¬ au b=au 0:=fun q=>hz (e.1 q)
   simp[h4,c0,hz,this]
end Go.Proofs.YtjjihmnbdeeedaaGreatDoor
