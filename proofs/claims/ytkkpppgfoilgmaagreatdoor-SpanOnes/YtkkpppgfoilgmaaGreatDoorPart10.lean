/- Parts of the proof. -/
import Derived.Test.YtkkpppgfoilgmaaGreatDoorPart9
import Derived.Test.YtkkpppgfoilgmaaGreatDoorPart1
import Derived.Test.YtkkpppgfoilgmaaGreatDoorPart8
import Derived.Test.YtkkpppgfoilgmaaGreatDoorPart6
import Derived.Test.YtkkpppgfoilgmaaGreatDoorPart2
import Derived.Test.YtkkpppgfoilgmaaGreatDoorPart3
import Derived.Deep.RegionHeld3
set_option maxRecDepth 100000
set_option maxHeartbeats 8000000
set_option linter.unusedVariables false
set_option linter.unusedSimpArgs false
namespace Go.Proofs.YtkkpppgfoilgmaaGreatDoor.M
def Fl (n:Int):Prop:=∃ k:Nat,(2^k:Int) ∣ n∧(n.natAbs:Int)<9007199254740992*2^k
def Nr (S h:Int):Prop:=Fl h∧∀ f,Fl f->(h-S).natAbs<=(f-S).natAbs
theorem p2 (k:Nat):(0:Int)<2^k:=Int.pow_pos (by decide)
theorem kI (k:Nat):(2:Int)^(k+1)=2*2^k:=by rw[Int.pow_succ,Int.mul_comm]
theorem gS {j k:Nat} (h:j<=k):(2^j:Int) ∣ 2^k:=⟨2^(k-j),by rw[<- Int.pow_add,Nat.add_sub_cancel' h]⟩
theorem qa {j k:Nat} (h:j<=k):(2:Int)^j<=2^k:=Int.le_of_dvd (p2 k) (gS h)
theorem wM {j k:Nat} (h:(2:Int)^j<2^k):j<k:=by
 rcases Nat.lt_or_ge j k with c|c
 ·exact c
 ·have:=qa c;omega
theorem Fl.neg {n:Int} (h:Fl n):Fl (-n):=by
 obtain⟨k,d,b⟩:=h
 exact⟨k,(Int.dvd_neg).2 d,by rw[Int.natAbs_neg];exact b⟩
theorem iK:Fl 0:=⟨0,⟨0,by simp⟩,by simp⟩
theorem lF {n:Int} {k:Nat} (d:(2^k:Int) ∣ n) (b:(n.natAbs:Int)<=9007199254740992*2^k):Fl n:=by
 by_cases c:(n.natAbs:Int)<9007199254740992*2^k
 ·exact⟨k,d,c⟩
 ·have e:(n.natAbs:Int)=9007199254740992*2^k:=by omega
  refine⟨k+1,?_,?_⟩
  ·rw[<- Int.dvd_natAbs,e,kI]
   exact⟨4503599627370496,by omega⟩
  ·rw[kI];have:=p2 k;omega
theorem Fl.dbl {n:Int} (h:Fl n):Fl (2*n):=by
 obtain⟨k,⟨c,rfl⟩,b⟩:=h
 refine⟨k+1,⟨c,by rw[kI,Int.mul_assoc]⟩,?_⟩
 rw[kI]
 omega
theorem Nr.neg {S h:Int} (n:Nr S h):Nr (-S) (-h):=by
 refine⟨n.1.neg,fun f hf=>?_⟩
 have:=n.2 (-f) hf.neg
 omega
theorem cL {S h:Int} (hS:Fl S) (n:Nr S h):h=S:=by
 have:=n.2 S hS
 omega
theorem qb {x y:Int} (hx:Fl x) (hy:Fl y) (h1:(x-y).natAbs<=x.natAbs) (h2:(x-y).natAbs<=y.natAbs):Fl (x-y):=by
 obtain⟨j,dx,bx⟩:=hx
 obtain⟨k,dy,by1⟩:=hy
 rcases Nat.le_total j k with c|c
 ·exact⟨j,Int.dvd_sub dx (Int.dvd_trans (gS c) dy),by omega⟩
 ·exact⟨k,Int.dvd_sub (Int.dvd_trans (gS c) dx) dy,by omega⟩
theorem uI {x y:Int} (hx:Fl x) (hy:Fl y) (h1:(x+y).natAbs<=x.natAbs) (h2:(x+y).natAbs<=y.natAbs):Fl (x+y):=by
 have e:x+y=x - -y:=by omega
 rw[e]
 exact qb hx hy.neg (by omega) (by omega)
theorem mM {S h:Int} {k:Nat} (n:Nr S h) (d:(2^k:Int) ∣ S) (h0:0<=S):(2^k:Int) ∣ h:=by
 by_cases c:(S.natAbs:Int)<=9007199254740992*2^k
 ·rw[cL (lF d c) n];exact d
 ·have hT:Fl (9007199254740992*2^k):=lF ⟨9007199254740992,by rw[Int.mul_comm]⟩ (by have:=p2 k;omega)
  have h1:=n.2 _ hT
  obtain⟨j,dj,bj⟩:=n.1
  have hk:=p2 k
  have hj:=p2 j
  have:(2:Int)^k<2^j:=by omega
  exact Int.dvd_trans (gS (Nat.le_of_lt (wM this))) dj
theorem qd {S h:Int} {k:Nat} (n:Nr S h) (d:(2^k:Int) ∣ S):(2^k:Int) ∣ h:=by
 rcases Int.le_total 0 S with c|c
 ·exact mM n d c
 ·have:=mM n.neg ((Int.dvd_neg).2 d) (by omega)
  exact(Int.dvd_neg).1 this
theorem si {a b h:Int} (ha:Fl a) (hb:Fl b) (n:Nr (a+b) h):Fl (a+b-h):=by
 have e1:=n.2 a ha
 have e2:=n.2 b hb
 obtain⟨j,da,ba⟩:=ha
 obtain⟨k,db,bb⟩:=hb
 rcases Nat.le_total j k with c|c
 ·have d:=Int.dvd_add da (Int.dvd_trans (gS c) db)
  exact⟨j,Int.dvd_sub d (qd n d),by omega⟩
 ·have d:=Int.dvd_add (Int.dvd_trans (gS c) da) db
  exact⟨k,Int.dvd_sub d (qd n d),by omega⟩
theorem qe {a b h:Int} (ha:Fl a) (hb:Fl b) (h0:0<=a) (hab:b.natAbs<=a.natAbs) (n:Nr (a+b) h):Fl (h-a):=by
 have ea:=n.2 a ha
 have e2:=n.2 (2*a) ha.dbl
 have ez:=n.2 0 iK
 by_cases hs:a<=2*h
 ·exact qb n.1 ha (by omega) (by omega)
 ·have hS:Fl (a+b):=by
   obtain⟨k,⟨c,hc⟩,ba⟩:=ha
   cases k with
   | zero=>exact⟨0,⟨a+b,by simp⟩,by simp at ba ⊢;omega⟩
   | succ k=>
    have hf:Fl (2^k*c):=⟨k,⟨c,rfl⟩,by rw[kI] at ba hc;rw[Int.mul_assoc] at hc;omega⟩
    have e3:=n.2 _ hf
    rw[kI,Int.mul_assoc] at hc
    exact uI ⟨k+1,⟨c,by rw[kI,Int.mul_assoc];exact hc⟩,ba⟩ hb (by omega) (by omega)
  rw[cL hS n,show a+b-a=b by omega]
  exact hb
theorem qg {a b h:Int} (ha:Fl a) (hb:Fl b) (hab:b.natAbs<=a.natAbs) (n:Nr (a+b) h):Fl (h-a):=by
 rcases Int.le_total 0 a with c|c
 ·exact qe ha hb c hab n
 ·have n2:=n.neg
  rw[show -(a+b)=-a + -b by omega] at n2
  have:=(qe ha.neg hb.neg (by omega) (by omega) n2).neg
  rwa [show -(-h - -a)=h-a by omega] at this
theorem qh (S:Int) (h0:0<=S):∃ k:Nat,S<9007199254740992*2^k∧(k=0∨4503599627370496*2^k<=S):=by
 have ex:∀ n:Nat,S<9007199254740992*2^n->∃ k:Nat,S<9007199254740992*2^k∧(k=0∨4503599627370496*2^k<=S):=by
  intro n
  induction n with
  | zero=>intro h;exact⟨0,h,.inl rfl⟩
  | succ n ih=>
   intro h
   by_cases c:S<9007199254740992*2^n
   ·exact ih c
   ·exact⟨n+1,h,.inr (by rw[kI];omega)⟩
 refine ex S.natAbs ?_
 have h1:S.natAbs<2^S.natAbs:=Nat.lt_two_pow_self
 have h2:((2^S.natAbs:Nat):Int)=2^S.natAbs:=by simp
 have h3:=p2 S.natAbs
 omega
theorem mN {S h:Int} (n:Nr S h) (h0:0<=S):1000*(h-S).natAbs<=S.natAbs:=by
 obtain⟨k,b,c⟩:=qh S h0
 have hk:=p2 k
 have hm:=Int.emod_nonneg S (show(2:Int)^k≠0 by omega)
 have hl:=Int.emod_lt_of_pos S hk
 have hf:Fl (S-S % 2^k):=by
  refine lF (k:=k) ⟨S/2^k,by have:=Int.emod_add_mul_ediv S (2^k);omega⟩ ?_
  have:0<=S-S % 2^k:=by
   have:=Int.emod_add_mul_ediv S (2^k)
   have h2:0<=2^k*(S/2^k):=Int.mul_nonneg (by omega) (Int.ediv_nonneg h0 (by omega))
   omega
  omega
 have e:=n.2 _ hf
 rcases c with c|c
 ·subst c
  have:S % 2^0=0:=by simp
  omega
 ·omega
theorem uJ {S h:Int} (n:Nr S h):1000*(h-S).natAbs<=S.natAbs:=by
 rcases Int.le_total 0 S with c|c
 ·exact mN n c
 ·have:=mN n.neg (by omega)
  omega
theorem yM {a b h v u p q l:Int} (ha:Fl a) (hb:Fl b) (nh:Nr (a+b) h) (nv:Nr (h-a) v) (nu:Nr (h-v) u) (np:Nr (a-u) p) (nq:Nr (b-v) q) (nl:Nr (p+q) l):l=a+b-h:=by
 have hd:=si ha hb nh
 -- the step qg,where it is exact
 have A:Fl (h-a)->l=a+b-h:=by
  intro hx
  have e1:=cL hx nv
  subst e1
  rw[show h-(h-a)=a by omega] at nu
  have e2:=cL ha nu
  subst e2
  rw[show u-u=0 by omega] at np
  have e3:=cL iK np
  subst e3
  rw[show b-(h-u)=u+b-h by omega] at nq
  have e4:=cL hd nq
  subst e4
  rw[show 0+(u+b-h)=u+b-h by omega] at nl
  exact cL hd nl
 by_cases hab:b.natAbs<=a.natAbs
 ·exact A (qg ha hb hab nh)
 by_cases hha:a.natAbs<=h.natAbs
 ·-- h-v is exact
  have n1:Nr (h + -a) v:=by rw[show h + -a=h-a by omega];exact nv
  have hx:=(qg nh.1 ha.neg (by omega) n1).neg
  rw[show -(v-h)=h-v by omega] at hx
  have e1:=cL hx nu
  subst e1
  have hy:=(si nh.1 ha.neg n1).neg
  rw[show -(h + -a-v)=a-(h-v) by omega] at hy
  have e2:=cL hy np
  subst e2
  have r1:=uJ nh
  have r2:=nv.2 b hb
  have hz:Fl (b-v):=qb hb nv.1 (by omega) (by omega)
  have e3:=cL hz nq
  subst e3
  rw[show a-(h-v)+(b-v)=a+b-h by omega] at nl
  exact cL hd nl
 ·-- then the sum is exact
  have e1:=nh.2 a ha
  have e2:=nh.2 (-a) ha.neg
  have hS:Fl (a+b):=uI ha hb (by omega) (by omega)
  have e3:=cL hS nh
  exact A (by rw[e3,show a+b-a=b by omega];exact hb)
theorem BX {S h T:Int} (n:Nr S h) (hT:Fl T) (c:T<=S):T<=h:=by
 have:=n.2 T hT
 omega
theorem BY (i:Nat) {m:Nat} (hm:(m:Int)<=9007199254740992):Fl ((m:Int)*2^i):=by
 refine lF (k:=i) ⟨m,by rw[Int.mul_comm]⟩ ?_
 have h1:0<=(m:Int)*2^i:=Int.mul_nonneg (by omega) (Int.le_of_lt (p2 i))
 have h2:(m:Int)*2^i<=9007199254740992*2^i:=Int.mul_le_mul_of_nonneg_right hm (Int.le_of_lt (p2 i))
 omega
theorem wN {h:Int} {i:Nat} (f:Fl h) (c:4503599627370496*2^i<=(h.natAbs:Int)):(2^i:Int) ∣ h:=by
 obtain⟨j,d,b⟩:=f
 have hi:=p2 i
 have hj:=p2 j
 cases i with
 | zero=>exact⟨h,by simp⟩
 | succ i=>
  rw[kI] at c
  have:(2:Int)^i<2^j:=by omega
  exact Int.dvd_trans (gS (wM this)) d
theorem uK (S:Int) (i:Nat):∃ T:Int,(2^i:Int) ∣ T∧2*(T-S).natAbs<=(2^i:Int):=by
 have hi:=p2 i
 have hm:=Int.emod_nonneg S (show(2:Int)^i≠0 by omega)
 have hl:=Int.emod_lt_of_pos S hi
 have e:=Int.emod_add_mul_ediv S (2^i)
 generalize S % 2^i=t at *
 by_cases c:2*t<=2^i
 ·exact⟨S-t,⟨S/2^i,by omega⟩,by omega⟩
 ·exact⟨S-t+2^i,⟨S/2^i+1,by rw[Int.mul_add,Int.mul_one];omega⟩,by omega⟩
theorem AE {S h:Int} {i:Nat} (n:Nr S h) (c:(S.natAbs:Int)<=9007199254740992*2^i):2*((h-S).natAbs:Int)<=2^i:=by
 obtain⟨T,d,e⟩:=uK S i
 have hi:=p2 i
 have hT:Fl T:=by
  by_cases c2:(T.natAbs:Int)<=9007199254740992*2^i
  ·exact lF d c2
  ·exfalso
   obtain⟨t,rfl⟩:=d
   have h1:(9007199254740992:Int)<t.natAbs:=by
    rw[Int.natAbs_mul] at c2
    have e2:((2^i:Int).natAbs:Int)=2^i:=by omega
    push_cast at c2
    rcases Int.lt_or_le 9007199254740992 (t.natAbs:Int) with g|g
    ·exact g
    ·exfalso
     have:=Int.mul_le_mul_of_nonneg_left g (Int.le_of_lt hi)
     rw[e2] at c2
     omega
   have h2:(2^i:Int)*9007199254740993<=((2^i*t).natAbs:Int):=by
    rw[Int.natAbs_mul]
    have e2:((2^i:Int).natAbs:Int)=2^i:=by omega
    rw[Int.natCast_mul,e2]
    exact Int.mul_le_mul_of_nonneg_left (by omega) (Int.le_of_lt hi)
   generalize 2^i*t=T at *
   omega
 have:=n.2 T hT
 omega
structure AF (a h:Int) (j:Nat):Prop where
 up:(134217728*2^j:Int) ∣ h
 lo:(2^j:Int) ∣ a-h
 top:(h.natAbs:Int)<=9007199254740992*2^j
 low:((a-h).natAbs:Int)<=67108864*2^j
theorem AF.neg {a h:Int} {j:Nat} (s:AF a h j):AF (-a) (-h) j :=
 ⟨(Int.dvd_neg).2 s.up,by rw[show -a - -h=-(a-h) by omega];exact(Int.dvd_neg).2 s.lo,by rw[Int.natAbs_neg];exact s.top,by rw[show -a - -h=-(a-h) by omega,Int.natAbs_neg];exact s.low⟩
theorem li (i:Nat) (t:Int):((2^i*t).natAbs:Int)=2^i*(t.natAbs:Int):=by
 have hi:=p2 i
 rw[Int.natAbs_mul,Int.natCast_mul,show((2^i:Int).natAbs:Int)=2^i by omega]
theorem Fl.down {i:Nat} {t:Int} (h:Fl (2^i*t)):Fl t:=by
 obtain⟨k,d,b⟩:=h
 rw[li] at b
 rcases Nat.le_total i k with c|c
 ·obtain⟨e,rfl⟩:∃ e,k=i+e:=⟨k-i,by omega⟩
  rw[Int.pow_add] at d b
  refine⟨e,Int.dvd_of_mul_dvd_mul_left (by have:=p2 i;omega) d,?_⟩
  have e2:(9007199254740992:Int)*(2^i*2^e)=2^i*(9007199254740992*2^e):=by rw[<- Int.mul_assoc,<- Int.mul_assoc,Int.mul_comm _ (2^i)]
  rw[e2] at b
  exact Int.lt_of_mul_lt_mul_left b (Int.le_of_lt (p2 i))
 ·refine⟨0,⟨t,by simp⟩,?_⟩
  have h1:(9007199254740992:Int)*2^k<=2^i*9007199254740992:=by rw[Int.mul_comm];exact Int.mul_le_mul_of_nonneg_right (qa c) (by decide)
  have h2:=Int.lt_of_mul_lt_mul_left (Int.lt_of_lt_of_le b h1) (Int.le_of_lt (p2 i))
  simpa using h2
theorem Fl.up {t:Int} (h:Fl t) (i:Nat):Fl (2^i*t):=by
 obtain⟨k,⟨c,rfl⟩,b⟩:=h
 refine⟨i+k,⟨c,by rw[Int.pow_add,Int.mul_assoc]⟩,?_⟩
 rw[li,Int.pow_add]
 have e2:(9007199254740992:Int)*(2^i*2^k)=2^i*(9007199254740992*2^k):=by rw[<- Int.mul_assoc,<- Int.mul_assoc,Int.mul_comm _ (2^i)]
 rw[e2]
 exact Int.mul_lt_mul_of_pos_left b (p2 i)
end Go.Proofs.YtkkpppgfoilgmaaGreatDoor.M
namespace Go.Proofs.YtkkpppgfoilgmaaGreatDoor
open Go Go.Proofs.Tryz Go.RowKit Go.Proofs.YtkkpppgfoilgmaaGreatDoor.M Ieee
def iV (p:Int):Int:=sg (decide (p<0)) (V Ieee.double (rg p).toNat:Int)
theorem dR {p:Int} (hp:au p) (h:aB p=true):aM p=iV p*pw (-1074):=by
 rw[fM hp h];unfold iV vS;rw[iH]
theorem nE (n k:Nat):((n*2^k:Nat):Int)=2^k*(n:Int):=by rw[Int.natCast_mul,Int.mul_comm];simp
theorem Df {S q:Int} (hq:0<q) (h:S≠0):S*q≠0:=fun c=>by
 rcases Int.mul_eq_zero.1 c with d|d<;>omega
theorem BZ {S q:Int} (hq:0<q):decide (S*q<0)=decide (S<0):=by
 congr 1
 exact propext (lS hq).symm
theorem B6 {S q A:Int} (hq:0<q) (h:S*q=sg (decide (S<0)) A):A=(S.natAbs:Int)*q:=by
 have:=og (t:=S) hq
 rw[this] at h
 exact(ie h).symm
theorem AG {S h:Int} (n:Nr (S.natAbs:Int) h):Nr S (sg (decide (S<0)) h):=by
 by_cases c:S<0
 ·rw[decide_eq_true c]
  have n2:=n.neg
  have e:-(S.natAbs:Int)=S:=by omega
  rw[e] at n2
  exact n2
 ·rw[decide_eq_false c]
  have e:(S.natAbs:Int)=S:=by omega
  rw[e] at n
  exact n
theorem tm (r:Nat):Fl (V Ieee.double r:Int):=by
 unfold V
 rw[iu]
 by_cases h:r<4503599627370496
 ·rw[if_pos h]
  exact⟨0,⟨r,by simp⟩,by simp;omega⟩
 ·rw[if_neg h]
  have hm:=Nat.mod_lt r (show 0<4503599627370496 by decide)
  obtain⟨n,hn⟩:∃ n,4503599627370496+r % 4503599627370496=n:=⟨_,rfl⟩
  rw[hn]
  refine⟨r/4503599627370496-1,⟨n,nE _ _⟩,?_⟩
  rw[Int.natAbs_natCast,nE,Int.mul_comm]
  exact Int.mul_lt_mul_of_pos_right (by omega) (p2 _)
theorem Dg {f:Int} (h:Fl f):∃ r:Nat,(f.natAbs:Int)=(V Ieee.double r:Int):=by
 obtain⟨k,b,c⟩:=qh (f.natAbs:Int) (by omega)
 rcases Nat.eq_zero_or_pos k with g|g
 ·subst g
  have:=fR Ieee.double 0 f.natAbs (.inl ⟨rfl,by rw[iu];simp at b;omega⟩)
  exact⟨_,by rw[this];simp⟩
 ·have c2:4503599627370496*2^k<=(f.natAbs:Int):=by
   rcases c with c|c
   ·omega
   ·exact c
  obtain⟨t,ht⟩:=wN h c2
  have e:(f.natAbs:Int)=2^k*(t.natAbs:Int):=by rw[ht,li]
  rw[e] at b c2
  have hk:=p2 k
  have b2:(t.natAbs:Int)<9007199254740992:=Int.lt_of_mul_lt_mul_left (by rw[Int.mul_comm (2^k) 9007199254740992];exact b) (Int.le_of_lt hk)
  have c3:4503599627370496<=(t.natAbs:Int):=Int.le_of_mul_le_mul_left (by rw[Int.mul_comm (2^k) 4503599627370496];exact c2) hk
  have:=fR Ieee.double k t.natAbs (.inr ⟨by rw[iu];omega,by rw[iu];omega⟩)
  exact⟨_,by rw[this,e];push_cast;rw[Int.mul_comm]⟩
theorem tn {r s:Nat} (h:r<=s):(V Ieee.double r:Int)<=V Ieee.double s:=by
 rcases Nat.lt_or_eq_of_le h with g|g
 ·have:=iO Ieee.double g;omega
 ·rw[g];omega
theorem Dh {S:Int} {ng:Bool} {r0:Nat} {left:Int} (h0:0<=S) (hR:co (S*pw (-1074)) r0 left) (hf:aN 0 ng r0 left<9218868437227405312):Nr S (V Ieee.double (aN 0 ng r0 left).toNat:Int):=by
 obtain⟨lo,hi,l0,l1,l2,l3⟩:=hR
 have hq:=bD (-1074)
 unfold vS at *
 generalize pw (-1074)=q at *
 have g1:(V Ieee.double r0:Int)<=S:=Int.le_of_mul_le_mul_right lo hq
 have g2:S<(V Ieee.double (r0+1):Int):=Int.lt_of_mul_lt_mul_right hi (Int.le_of_lt hq)
 have g3:left=2->2*S=(V Ieee.double r0:Int)+V Ieee.double (r0+1):=fun c=>by
  have:=l2.1 c
  rw[<- Int.add_mul,<- Int.mul_assoc] at this
  exact Int.eq_of_mul_eq_mul_right (by omega) this
 have g4:left=3->(V Ieee.double r0:Int)+V Ieee.double (r0+1)<2*S:=fun c=>by
  have:=l3.1 c
  rw[<- Int.add_mul,<- Int.mul_assoc] at this
  exact Int.lt_of_mul_lt_mul_right this (Int.le_of_lt hq)
 have g5:left≠3->2*S<=(V Ieee.double r0:Int)+V Ieee.double (r0+1):=fun c=>by
  rcases Int.lt_or_le ((V Ieee.double r0:Int)+V Ieee.double (r0+1)) (2*S) with d|d
  ·have:=Int.mul_lt_mul_of_pos_right d hq
   rw[Int.add_mul,Int.mul_assoc] at this
   exact absurd (l3.2 this) c
  ·exact d
 clear l0 l1 l2 l3 lo hi
 have far:∀ f:Int,Fl f->f<=V Ieee.double r0∨V Ieee.double (r0+1)<=f:=by
  intro f hf
  obtain⟨s,hs⟩:=Dg hf
  rcases Nat.lt_or_ge r0 s with c|c
  ·have:=tn (show r0+1<=s from c)
   have:=tn (show 0<=r0 by omega)
   omega
  ·have:=tn c
   omega
 unfold aN at hf ⊢
 by_cases hr:(r0:Int)<9218868437227405312
 ·rw[if_pos hr] at hf ⊢
  cases hu:aW 0 ng (decide (r0 % 2=1)) left
  ·rw[if_neg (by decide)]
   have e:((r0:Int)+0).toNat=r0:=by omega
   rw[e]
   have hl:left≠3:=fun c=>by
    subst c
    unfold aW at hu
    simp at hu
   refine⟨tm r0,fun f hf=>?_⟩
   have:=far f hf
   have:=g5 hl
   omega
  ·rw[if_pos rfl]
   have e:((r0:Int)+1).toNat=r0+1:=by omega
   rw[e]
   have hl:left=3∨left=2:=by
    unfold aW at hu
    simp at hu
    rcases hu with c|c
    ·exact .inl c
    ·exact .inr c.1
   refine⟨tm (r0+1),fun f hf=>?_⟩
   have:=far f hf
   rcases hl with c|c
   ·have:=g4 c;omega
   ·have:=g3 c;omega
 ·rw[if_neg hr] at hf
  unfold ce aW at hf
  simp at hf
def gn:Int:=(V Ieee.double 9218868437227405311:Int)
theorem B7 {S:Int} {ng:Bool} {r0:Nat} {left:Int} (h0:S<=gn) (hR:co (S*pw (-1074)) r0 left):aN 0 ng r0 left<9218868437227405312:=by
 obtain⟨lo,hi,l0,l1,l2,l3⟩:=hR
 have hq:=bD (-1074)
 unfold vS at *
 generalize pw (-1074)=q at *
 have g1:(V Ieee.double r0:Int)<=S:=Int.le_of_mul_le_mul_right lo hq
 have hr:r0<=9218868437227405311:=by
  rcases Nat.lt_or_ge 9218868437227405311 r0 with c|c
  ·have:=iO Ieee.double c
   unfold gn at h0
   omega
  ·exact c
 unfold aN
 rw[if_pos (by omega)]
 by_cases c:r0=9218868437227405311
 ·have e:S=(V Ieee.double r0:Int):=by rw[c] at g1 ⊢;unfold gn at h0;omega
  have:left=0:=l0.2 (by rw[e])
  subst this
  rw[if_neg (fun c=>ef c)]
  omega
 ·split<;>omega
theorem cV {ng:Bool} {r:Int} (h0:0<=r) (h1:r<=9218868437227405312):au (aw ng r)∧rg (aw ng r)=r∧decide (aw ng r<0)=ng:=by
 unfold aw au rg
 cases ng
 ·simp only[Bool.false_eq_true,if_false]
  rw[if_neg (by omega)]
  exact⟨by omega,rfl,decide_eq_false (by omega)⟩
 ·simp only[if_true]
  rw[if_pos (by omega)]
  exact⟨by omega,by omega,decide_eq_true (by omega)⟩
theorem gI {ng:Bool} {r:Int} (h0:0<=r) (h1:r<=9218868437227405312):aB (aw ng r)=decide (r<9218868437227405312):=by
 obtain⟨a,b,_⟩:=cV (ng:=ng) h0 h1
 have:=bm a
 rw[b] at this
 cases h:aB (aw ng r)
 ·refine(decide_eq_false fun c=>?_).symm
  rw[this.2 c] at h;cases h
 ·exact(decide_eq_true (this.1 h)).symm
theorem nF {ng:Bool} {r:Int} (h0:0<=r) (h1:r<=9218868437227405312):iV (aw ng r)=sg ng (V Ieee.double r.toNat:Int):=by
 obtain⟨_,b,c⟩:=cV (ng:=ng) h0 h1
 unfold iV
 rw[b,c]
theorem yN:Nr 0 0:=⟨iK,fun f _=>by omega⟩
theorem sj {S:Int} (h:S≠0):au (bf (S*pw (-1074)))∧(aB (bf (S*pw (-1074)))=true->Nr S (iV (bf (S*pw (-1074)))))∧((S.natAbs:Int)<=gn->aB (bf (S*pw (-1074)))=true):=by
 have hq:=bD (-1074)
 obtain⟨A,r0,left,e1,hR,e2⟩:=fo (Df hq h)
 rw[BZ hq] at e1 e2
 have hA:=B6 hq e1
 rw[hA] at hR
 have hrr:=bT 0 (decide (S<0)) r0 left
 rw[e2]
 refine⟨(cV hrr.1 hrr.2).1,fun hp=>?_,fun hb=>?_⟩
 ·rw[gI hrr.1 hrr.2] at hp
  have n:=Dh (ng:=decide (S<0)) (Int.natCast_nonneg _) hR (of_decide_eq_true hp)
  rw[nF hrr.1 hrr.2]
  exact AG n
 ·rw[gI hrr.1 hrr.2]
  exact decide_eq_true (B7 hb hR)
end Go.Proofs.YtkkpppgfoilgmaaGreatDoor
namespace Go.Proofs.YtkkpppgfoilgmaaGreatDoor.M
open Go Go.Proofs.Tryz Ieee
theorem mp {b:Int} (h:au b):au (rg b)∧0<=rg b:=by unfold au rg at *;split<;>omega
theorem tp {b:Int} (h:au b):aD (rg b)=aD b:=by
 unfold au at h;unfold aD rg bk bF
 by_cases h0:b<0
 ·rw[if_pos h0,show(b+9223372036854775808)/4503599627370496 % 2048=b/4503599627370496 % 2048 from by omega,show(b+9223372036854775808) % 4503599627370496=b % 4503599627370496 from by omega]
 ·rw[if_neg h0]
theorem Di {b:Int} (h:au b):wd b % 9223372036854775808=wd (rg b):=by unfold au rg wd at *;split<;>omega
theorem tq {b:Int} (h:0<=b):aj b=b:=by unfold aj;rw[if_neg (by omega)]
theorem qi (b:Int):wd b<18446744073709551616:=by unfold wd;omega
theorem B8 {b:Int} (h:au b):(bits .andNot .u64 (wd b) 9223372036854775808).toNat=wd (rg b):=by
 have e:=Di h
 have l:=qi b
 rw[<- e]
 show(IntKind.u64.wrap (((BitVec.ofInt 64 (wd b:Int) &&& ~~~ BitVec.ofInt 64 9223372036854775808).toNat:Nat):Int)).toNat=_
 rw[BitVec.toNat_and,BitVec.toNat_not,dl,dl,show(2^64-1-((9223372036854775808:Int) % 18446744073709551616).toNat)=2^63-1 from by decide,Nat.and_two_pow_sub_one_eq_mod,IntKind.wrap_u64]
 omega
theorem xJ {b:Int} (h:aB b=true):¬ aD b=4:=by
 have:=mz h
 unfold aD;rw[if_neg this];split
 ·split<;>omega
 ·omega
theorem fN {a b:Int} (ha:au a) (hb:au b) (h1:¬ aD a=4) (h2:¬ aD b=4) (h:aj a<aj b):FloatKind.f64.format.order (wd a) (wd b)=some .lt:=by rw[ly ha hb h1 h2,d7 h]
theorem fO {a b:Int} (ha:au a) (hb:au b) (h1:¬ aD a=4) (h2:¬ aD b=4) (h:aj b<aj a):FloatKind.f64.format.order (wd a) (wd b)=some .gt:=by rw[ly ha hb h1 h2,d8 h]
theorem fP {a b:Int} (ha:au a) (hb:au b) (h1:¬ aD a=4) (h2:¬ aD b=4) (h:aj a=aj b):FloatKind.f64.format.order (wd a) (wd b)=some .eq:=by rw[ly ha hb h1 h2,iz h]
def tr (b:Int):Bool:=decide (rg b=0)||(decide (3931642474694443008<=rg b)&&decide (rg b<5282722362905591808))
def nn (p:Int):Prop:=au p∧¬ aD p=4
def dS (a b:Int):Int:=if aj a<aj b then a else if aj b<aj a then b else if a=b then a else -9223372036854775808
def eg (a b:Int):Int:=if aj a<aj b then b else if aj b<aj a then a else if a=b then a else 0
theorem fV {a b:Int} (ha:au a) (hb:au b) (h:aj a=aj b) (hn:¬ a=b):(a=0∧b=-9223372036854775808)∨(a=-9223372036854775808∧b=0):=by
 unfold aj au at *
 split at h<;>split at h<;>omega
theorem cP:nn 0∧nn (-9223372036854775808):=by refine⟨⟨?_,by decide⟩,⟨?_,by decide⟩⟩<;>(unfold au;omega)
theorem lG {a b:Int} (ha:nn a) (hb:nn b):nn (dS a b)∧aj (dS a b)<=aj a∧aj (dS a b)<=aj b∧(aj (dS a b)=aj a∨aj (dS a b)=aj b):=by
 unfold dS
 split
 ·exact⟨ha,by omega,by omega,.inl rfl⟩
 ·split
  ·exact⟨hb,by omega,by omega,.inr rfl⟩
  ·split
   ·exact⟨ha,by omega,by omega,.inl rfl⟩
   ·have e:aj a=aj b:=by omega
    have e0:aj (-9223372036854775808)=0:=by decide
    have e1:aj 0=0:=by decide
    rcases fV ha.1 hb.1 e (by assumption) with⟨rfl,rfl⟩|⟨rfl,rfl⟩
    ·exact⟨cP.2,by omega,by omega,.inr rfl⟩
    ·exact⟨cP.2,by omega,by omega,.inl rfl⟩
theorem lH {a b:Int} (ha:nn a) (hb:nn b):nn (eg a b)∧aj a<=aj (eg a b)∧aj b<=aj (eg a b)∧(aj (eg a b)=aj a∨aj (eg a b)=aj b):=by
 unfold eg
 split
 ·exact⟨hb,by omega,by omega,.inr rfl⟩
 ·split
  ·exact⟨ha,by omega,by omega,.inl rfl⟩
  ·split
   ·exact⟨ha,by omega,by omega,.inl rfl⟩
   ·have e:aj a=aj b:=by omega
    have e0:aj (-9223372036854775808)=0:=by decide
    have e1:aj 0=0:=by decide
    rcases fV ha.1 hb.1 e (by assumption) with⟨rfl,rfl⟩|⟨rfl,rfl⟩
    ·exact⟨cP.1,by omega,by omega,.inl rfl⟩
    ·exact⟨cP.1,by omega,by omega,.inr rfl⟩
def br (lo hi:Int):Bool:=decide (¬ aD lo=4∧¬ aD hi=4∧aj lo<=aj hi∧aj lo<9218868437227405312∧-9218868437227405312<aj hi)
theorem fW {lo hi:Int}:br lo hi=true↔¬ aD lo=4∧¬ aD hi=4∧aj lo<=aj hi∧aj lo<9218868437227405312∧-9218868437227405312<aj hi:=by unfold br;exact decide_eq_true_iff
theorem dY {p:Int} (h:nn p):aj (aH p)=aj p∧nn (aH p):=by
 have h0:=zV h.1
 unfold aH
 rw[if_neg h.2]
 split
 ·rename_i hz
  rcases h0.1 hz with rfl|rfl
  ·exact⟨rfl,cP.1⟩
  ·exact⟨by decide,cP.1⟩
 ·exact⟨rfl,h⟩
end Go.Proofs.YtkkpppgfoilgmaaGreatDoor.M
namespace Go.Proofs.YtkkpppgfoilgmaaGreatDoor
open Go Go.Proofs.Tryz Go.RowKit Go.Proofs.YtkkpppgfoilgmaaGreatDoor.M
theorem lI {b:Int} (hb:au b) (w:World) :
  Calls prog 77 #[.float .f64 (wd b)] w fun e w'=>e=.returned (.float .f64 (wd (rg b)))∧w'=w:=by
 have h1:=fl
 have h2:=dw
 go_enter func77,ntmps77
 go_wp2
 go_ret
 exact⟨cZ (B8 hb),rfl⟩
theorem oi {p B g o:Nat} {v x0 x1:Value} {W:World} (hg:B<=g) (h:p<B∧B<=W.heap.size∧W.cell? ⟨p,0,none⟩=some x0∧W.cell? ⟨p,1,none⟩=some x1) :
  p<B∧B<=(W.setCell ⟨g,o,none⟩ v).heap.size∧(W.setCell ⟨g,o,none⟩ v).cell? ⟨p,0,none⟩=some x0∧(W.setCell ⟨g,o,none⟩ v).cell? ⟨p,1,none⟩=some x1:=by
 have hw:Wr g W (W.setCell ⟨g,o,none⟩ v):=(Wr.refl g W).setCell o v
 obtain⟨h1,h2,a0,a1⟩:=h
 have hp:p<W.heap.size:=by omega
 have hne:p≠g:=by omega
 exact⟨h1,Nat.le_trans h2 hw.size,(hw.cell hp hne).trans a0,(hw.cell hp hne).trans a1⟩
theorem ag {w:World} {g:Nat} {xs:Array Value} {t:TypeId} (h:w.heap[g]?=some (.cells xs t (0,0))) (i:Nat) (v:Value):(w.setCell ⟨g,i,none⟩ v).heap[g]?=some (.cells (xs.setIfInBounds i v) t (0,0)):=by
 simp[World.setCell,Array.getElem?_modify,h]
def q0 (b:Int):Int:=if b=-9223372036854775808 then 0 else b
theorem af {w w':World} {p:Addr} {v:Value} (h:w.cell? p=some v) (hb:Below w.heap.size w w'):w'.cell? p=some v :=
 (hb.cell (World.block_lt_of_cell? w _ h)).trans h
theorem Q4.keeps {a b:Nat} {x0 x1 x2 x3:Value} {W W':World} (h:W.cell? ⟨a,0,none⟩=some x0∧W.cell? ⟨a,1,none⟩=some x1∧W.cell? ⟨b,0,none⟩=some x2∧W.cell? ⟨b,1,none⟩=some x3) (hb:Below W.heap.size W W') :
  W'.cell? ⟨a,0,none⟩=some x0∧W'.cell? ⟨a,1,none⟩=some x1∧W'.cell? ⟨b,0,none⟩=some x2∧W'.cell? ⟨b,1,none⟩=some x3 :=
 ⟨af h.1 hb,af h.2.1 hb,af h.2.2.1 hb,af h.2.2.2 hb⟩
def bW (lo hi:Int):Value:=.agg #[.float .f64 (wd lo),.float .f64 (wd hi)]
def cQ (lo hi:Int):Value:=.agg #[.int .i64 lo,.int .i64 hi]
theorem lj (x y:Int) (w:World) :
  Calls prog 37 #[cQ x y] w fun e w'=>e=.returned (bW x y)∧w'=((w.alloc (.cells #[.int .i64 x,.int .i64 y] 23)).alloc (.cells #[.float .f64 (wd x),.float .f64 (wd y)] 64)).drew:=by
 unfold cQ bW
 have hx:Hid ((((w.alloc (.cells #[.int .i64 x,.int .i64 y] 23)).alloc (.cells #[.float .f64 0,.float .f64 0] 64)).setCell ⟨w.heap.size+1,0,none⟩ (.float .f64 (wd x))).setCell ⟨w.heap.size+1,1,none⟩ (.float .f64 (wd y))=(w.alloc (.cells #[.int .i64 x,.int .i64 y] 23)).alloc (.cells #[.float .f64 (wd x),.float .f64 (wd y)] 64)):=by
  unfold Hid
  rw[World.setCell_alloc_at _ _ _ _ _ (by simp),World.setCell_alloc_at _ _ _ _ _ (by simp)]
  rfl
 have hb2:=ax w (.cells #[.int .i64 x,.int .i64 y] 23) (.cells #[.float .f64 0,.float .f64 0] 64)
 have q0:=bv w (.cells #[.int .i64 x,.int .i64 y] 23) (.cells #[.float .f64 0,.float .f64 0] 64)
 have q1:=bh w (.cells #[.int .i64 x,.int .i64 y] 23) (.cells #[.float .f64 0,.float .f64 0] 64)
 have hs:=gR w (.cells #[.int .i64 x,.int .i64 y] 23) (.cells #[.float .f64 0,.float .f64 0] 64)
 have k0:=ab q0 0 rfl
 have k1:=ab q0 1 rfl
 go_enter func37,ntmps37
 go_wp2_with fail
 generalize hwx:(w.alloc (.cells #[.int .i64 x,.int .i64 y] 23)).alloc (.cells #[.float .f64 0,.float .f64 0] 64)=wx at hb2 q0 q1 hs k0 k1 hx ⊢
 clear hwx
 have hc:w.heap.size<w.heap.size+1∧w.heap.size+1<=wx.drew.heap.size∧wx.drew.cell? ⟨w.heap.size,0,none⟩=some (.int .i64 x)∧wx.drew.cell? ⟨w.heap.size,1,none⟩=some (.int .i64 y):=⟨by omega,by show _<=wx.heap.size;omega,k0,k1⟩
 have d1:wx.drew.heap[w.heap.size+1]?=some (.cells #[.float .f64 0,.float .f64 0] 64 (0,0)):=q1
 have d2:((wx.setCell ⟨w.heap.size+1,0,none⟩ (.float .f64 (wd x))).drew).heap[w.heap.size+1]?=some (.cells #[.float .f64 (wd x),.float .f64 0] 64 (0,0)):=ag d1 0 (.float .f64 (wd x))
 have d3:(((wx.setCell ⟨w.heap.size+1,0,none⟩ (.float .f64 (wd x))).setCell ⟨w.heap.size+1,1,none⟩ (.float .f64 (wd y))).drew).heap[w.heap.size+1]?=some (.cells #[.float .f64 (wd x),.float .f64 (wd y)] 64 (0,0)):=ag d2 1 (.float .f64 (wd y))
 have f0:=ab d1 0 rfl
 have z0:=ak d1 0
 have f1:=ab d2 1 rfl
 have z1:=ak d2 1
 have s0:(store ⟨w.heap.size+1,0,none⟩ (.float .f64 (wd x))).run prog wx.drew=.ok () ((wx.setCell ⟨w.heap.size+1,0,none⟩ (.float .f64 (wd x))).drew):=by rw[run_store _ _ _ _ _ rfl,f0];simp only[z0];rfl
 have s1:(store ⟨w.heap.size+1,1,none⟩ (.float .f64 (wd y))).run prog ((wx.setCell ⟨w.heap.size+1,0,none⟩ (.float .f64 (wd x))).drew)=.ok () (((wx.setCell ⟨w.heap.size+1,0,none⟩ (.float .f64 (wd x))).setCell ⟨w.heap.size+1,1,none⟩ (.float .f64 (wd y))).drew):=by rw[run_store _ _ _ _ _ rfl,f1];simp only[z1];rfl
 go_region_held3 (fun W=>w.heap.size<w.heap.size+1∧w.heap.size+1<=W.heap.size∧W.cell? ⟨w.heap.size,0,none⟩=some (.int .i64 x)∧W.cell? ⟨w.heap.size,1,none⟩=some (.int .i64 y))
  (first|assumption|(repeat (first|exact hc|refine oi (by omega) ?_)))
  ((go_at_call 46;refine(fT _ _).mono ?_;rintro _ _ ⟨rfl,rfl⟩))
 have e0:=ab d3 0 rfl
 have e1:=ab d3 1 rfl
 clear s0 s1 f0 f1 z0 z1 d1 d2 d3
 generalize (wx.setCell ⟨w.heap.size+1,0,none⟩ (.float .f64 (wd x))).setCell ⟨w.heap.size+1,1,none⟩ (.float .f64 (wd y))=wy at *
 go_wp2
 refine bodyPost_ret (v:=.agg #[.float .f64 (wd x),.float .f64 (wd y)]) (by simp[results,results37,go_sem,e0,e1]) rfl ⟨rfl,by rw[hx.out]⟩
theorem el (x y:Int) (w:World) :
  Calls prog 37 #[cQ x y] w fun e w'=>e=.returned (bW x y)∧Below w.heap.size w w' :=
 (lj x y w).mono fun _ _ ⟨h1,h2⟩=>⟨h1,by rw[h2];exact(ax w _ _).drew⟩
theorem wO {p:Int} (h:nn p) (w:World) :
  Calls prog 59 #[.float .f64 (wd p),.int .i64 1] w fun e w'=>e=.returned (.bool (decide (9218868437227405312<=aj p)))∧w'=w:=by
 have r:au 9218868437227405311:=by unfold au;omega
 have c:¬ aD 9218868437227405311=4:=by decide
 have k:aj 9218868437227405311=9218868437227405311:=by decide
 have e:wd 9218868437227405311=9218868437227405311:=by decide
 rcases Int.lt_trichotomy (aj p) 9218868437227405311 with g|g|g
 ·have o:=fN h.1 r h.2 c (by rw[k];exact g)
  rw[e] at o
  rw[decide_eq_false (by omega)]
  go_enter func59,ntmps59
  go_wp2
  go_ret
  exact⟨rfl,rfl⟩
 ·have o:=fP h.1 r h.2 c (by rw[k];exact g)
  rw[e] at o
  rw[decide_eq_false (by omega)]
  go_enter func59,ntmps59
  go_wp2
  go_ret
  exact⟨rfl,rfl⟩
 ·have o:=fO h.1 r h.2 c (by rw[k];exact g)
  rw[e] at o
  rw[decide_eq_true (by omega)]
  go_enter func59,ntmps59
  go_wp2
  go_ret
  exact⟨rfl,rfl⟩
theorem AH {p:Int} (h:nn p):Op.negFloat .f64 (wd p)=wd (neg p):=by
 have hr:=h.1
 unfold Op.negFloat
 show wd p ^^^ 2^63=_
 unfold neg
 rw[if_neg h.2]
 unfold au at hr
 by_cases h0:p<0
 ·rw[if_pos h0]
  have e:wd p=2^63+wd (p+9223372036854775808):=by unfold wd;omega
  rw[e,vM 63 _ (by unfold wd;omega)]
 ·rw[if_neg h0,Nat.xor_comm,ro 63 _ (by unfold wd;omega)]
  unfold wd;omega
theorem j7 {P:Program} {p:Int} (h:nn p) (w:World):(Op.unary UnOp.neg (.float .f64 (wd p))).run P w=.ok (.float .f64 (wd (neg p))) w:=by
 show(pure (Value.float .f64 (Op.negFloat .f64 (wd p))):Sem Value).run P w=_
 rw[AH h]
 rfl
theorem gp {p:Int} (h:nn p):nn (neg p)∧aj (neg p)=- aj p:=by
 obtain⟨a,b⟩:=nw h.1 h.2
 exact⟨⟨rt h.1,b⟩,a⟩
theorem tt {p:Int} (h:nn p) (w:World) :
  Calls prog 59 #[.float .f64 (wd p),.int .i64 (-1)] w fun e w'=>e=.returned (.bool (decide (aj p <= -9218868437227405312)))∧w'=w:=by
 have r:au 9218868437227405311:=by unfold au;omega
 have c:¬ aD 9218868437227405311=4:=by decide
 have k:aj 9218868437227405311=9218868437227405311:=by decide
 have e:wd 9218868437227405311=9218868437227405311:=by decide
 have hN:=fun W=>j7 (P:=prog) h W
 obtain⟨g0,g1⟩:=gp h
 rcases Int.lt_trichotomy (aj (neg p)) 9218868437227405311 with g|g|g
 ·have o:=fN g0.1 r g0.2 c (by rw[k];exact g)
  rw[e] at o
  rw[decide_eq_false (by omega)]
  clear g1 g
  go_enter func59,ntmps59
  go_wp2
  go_ret
  exact⟨rfl,rfl⟩
 ·have o:=fP g0.1 r g0.2 c (by rw[k];exact g)
  rw[e] at o
  rw[decide_eq_false (by omega)]
  clear g1 g
  go_enter func59,ntmps59
  go_wp2
  go_ret
  exact⟨rfl,rfl⟩
 ·have o:=fO g0.1 r g0.2 c (by rw[k];exact g)
  rw[e] at o
  rw[decide_eq_true (by omega)]
  clear g1 g
  go_enter func59,ntmps59
  go_wp2
  go_ret
  exact⟨rfl,rfl⟩
theorem dF {lo hi:Int} (hl:au lo) (hh:au hi) (w:World) :
  Calls prog 38 #[bW lo hi] w fun e w'=>e=.returned (.bool (br lo hi))∧Below w.heap.size w w':=by
 unfold bW
 by_cases h4:aD lo=4∨aD hi=4
 ·have o:=jg hl hh h4
  rw[show br lo hi=false from decide_eq_false (fun h=>by rcases h4 with g|g;exact h.1 g;exact h.2.1 g)]
  go_enter func38,ntmps38
  go_wp2
  go_ret
  exact⟨rfl,ae _ _⟩
 have h1:¬ aD lo=4:=fun h=>h4 (.inl h)
 have h2:¬ aD hi=4:=fun h=>h4 (.inr h)
 have CU:Hid (∀ W,Calls prog 59 #[.float .f64 (wd lo),.int .i64 1] W fun e w'=>e=.returned (.bool (decide (9218868437227405312<=aj lo)))∧w'=W):=fun W=>wO ⟨hl,h1⟩ W
 have CD:Hid (∀ W,Calls prog 59 #[.float .f64 (wd hi),.int .i64 (-1)] W fun e w'=>e=.returned (.bool (decide (aj hi <= -9218868437227405312)))∧w'=W):=fun W=>tt ⟨hh,h2⟩ W
 have q0:(w.alloc (.cells #[.float .f64 (wd lo),.float .f64 (wd hi)] 64)).heap[w.heap.size]?=some (.cells #[.float .f64 (wd lo),.float .f64 (wd hi)] 64 (0,0)):=by show(w.heap.push _)[w.heap.size]?=_;simp
 have k0:=ab q0 0 rfl
 have k1:=ab q0 1 rfl
 have hb:=ae w (.cells #[.float .f64 (wd lo),.float .f64 (wd hi)] 64)
 by_cases g:aj hi<aj lo
 ·have o:=fO hl hh h1 h2 g
  rw[show br lo hi=false from decide_eq_false (fun h=>by omega)]
  clear CU CD
  go_enter func38,ntmps38
  go_wp2
  go_ret
  exact⟨rfl,ae _ _⟩
 have o:FloatKind.f64.format.order (wd lo) (wd hi)=some .lt∨FloatKind.f64.format.order (wd lo) (wd hi)=some .eq:=by
  by_cases e:aj lo=aj hi
  ·exact .inr (fP hl hh h1 h2 e)
  ·exact .inl (fN hl hh h1 h2 (by omega))
 by_cases a:9218868437227405312<=aj lo
 ·rw[show br lo hi=false from decide_eq_false (fun h=>by omega)]
  rw[decide_eq_true a] at CU
  clear h4 g a CD q0 k0 k1
  rcases o with o|o
  all_goals
   go_enter func38,ntmps38
   go_wp2_with (go_at_call 59;refine(CU.out _).mono ?_;rintro _ _ ⟨rfl,rfl⟩)
   go_ret
   exact⟨rfl,hb⟩
 rw[decide_eq_false a] at CU
 by_cases b:aj hi <= -9218868437227405312
 ·rw[show br lo hi=false from decide_eq_false (fun h=>by omega)]
  rw[decide_eq_true b] at CD
  clear h4 g a b q0 k0 k1
  rcases o with o|o
  all_goals
   go_enter func38,ntmps38
   go_wp2_with fail
   refine(CU.out _).mono ?_
   rintro _ _ ⟨rfl,rfl⟩
   go_wp2_with fail
   refine(CD.out _).mono ?_
   rintro _ _ ⟨rfl,rfl⟩
   go_wp2
   go_ret
   exact⟨rfl,hb⟩
 ·rw[show br lo hi=true from decide_eq_true ⟨h1,h2,by omega,by omega,by omega⟩]
  rw[decide_eq_false b] at CD
  clear h4 g a b q0 k0 k1
  rcases o with o|o
  all_goals
   go_enter func38,ntmps38
   go_wp2_with fail
   refine(CU.out _).mono ?_
   rintro _ _ ⟨rfl,rfl⟩
   go_wp2_with fail
   refine(CD.out _).mono ?_
   rintro _ _ ⟨rfl,rfl⟩
   go_wp2
   go_ret
   exact⟨rfl,hb⟩
theorem AI {a b:Int} (ha:nn a) (hb:nn b) (h:aj a=aj b):(if (FloatKind.f64.decode (wd a)).neg then wd a else wd b)=wd (if a=b then a else -9223372036854775808):=by
 by_cases e:a=b
 ·subst e;rw[if_pos rfl];split<;>rfl
 ·rw[if_neg e]
  rcases fV ha.1 hb.1 h e with⟨rfl,rfl⟩|⟨rfl,rfl⟩
  ·rfl
  ·rfl
theorem AJ {a b:Int} (ha:nn a) (hb:nn b) (h:aj a=aj b):(if (FloatKind.f64.decode (wd a)).neg then wd b else wd a)=wd (if a=b then a else 0):=by
 by_cases e:a=b
 ·subst e;rw[if_pos rfl];split<;>rfl
 ·rw[if_neg e]
  rcases fV ha.1 hb.1 h e with⟨rfl,rfl⟩|⟨rfl,rfl⟩
  ·rfl
  ·rfl
theorem wP {P:Program} {a b:Int} (ha:nn a) (hb:nn b) (ts:Array TypeId) (t:TypeId) (w:World):(Builtin.min_ ts t #[.float .f64 (wd a),.float .f64 (wd b)]).run P w=.ok (.float .f64 (wd (dS a b))) w:=by
 have hf:(Builtin.min_ ts t #[.float .f64 (wd a),.float .f64 (wd b)])=(Builtin.min2 (.float .f64 (wd a)) (.float .f64 (wd b))):=by simp[Builtin.min_]
 rw[hf]
 unfold Builtin.min2 dS
 rcases Int.lt_trichotomy (aj a) (aj b) with h|h|h
 ·rw[if_pos h]
  simp only[fN ha.1 hb.1 ha.2 hb.2 h]
  rfl
 ·rw[if_neg (by omega),if_neg (by omega)]
  simp only[fP ha.1 hb.1 ha.2 hb.2 h]
  rw[AI ha hb h]
  rfl
 ·rw[if_neg (by omega),if_pos h]
  simp only[fO ha.1 hb.1 ha.2 hb.2 h]
  rfl
theorem wQ {P:Program} {a b:Int} (ha:nn a) (hb:nn b) (ts:Array TypeId) (t:TypeId) (w:World):(Builtin.max_ ts t #[.float .f64 (wd a),.float .f64 (wd b)]).run P w=.ok (.float .f64 (wd (eg a b))) w:=by
 have hf:(Builtin.max_ ts t #[.float .f64 (wd a),.float .f64 (wd b)])=(Builtin.max2 (.float .f64 (wd a)) (.float .f64 (wd b))):=by simp[Builtin.max_]
 rw[hf]
 unfold Builtin.max2 eg
 rcases Int.lt_trichotomy (aj a) (aj b) with h|h|h
 ·rw[if_pos h]
  simp only[fN ha.1 hb.1 ha.2 hb.2 h]
  rfl
 ·rw[if_neg (by omega),if_neg (by omega)]
  simp only[fP ha.1 hb.1 ha.2 hb.2 h]
  rw[AJ ha hb h]
  rfl
 ·rw[if_neg (by omega),if_pos h]
  simp only[fO ha.1 hb.1 ha.2 hb.2 h]
  rfl
theorem uL {a b B g o:Nat} {v x0 x1 x2 x3:Value} {W:World} (hg:B<=g) (h:(a<B∧b<B∧B<=W.heap.size)∧W.cell? ⟨a,0,none⟩=some x0∧W.cell? ⟨a,1,none⟩=some x1∧W.cell? ⟨b,0,none⟩=some x2∧W.cell? ⟨b,1,none⟩=some x3) :
  (a<B∧b<B∧B<=(W.setCell ⟨g,o,none⟩ v).heap.size)∧(W.setCell ⟨g,o,none⟩ v).cell? ⟨a,0,none⟩=some x0∧(W.setCell ⟨g,o,none⟩ v).cell? ⟨a,1,none⟩=some x1∧(W.setCell ⟨g,o,none⟩ v).cell? ⟨b,0,none⟩=some x2∧(W.setCell ⟨g,o,none⟩ v).cell? ⟨b,1,none⟩=some x3:=by
 have hw:Wr g W (W.setCell ⟨g,o,none⟩ v):=(Wr.refl g W).setCell o v
 obtain⟨⟨h1,h2,h3⟩,a0,a1,a2,a3⟩:=h
 exact⟨⟨h1,h2,Nat.le_trans h3 hw.size⟩,(hw.cell (show a<W.heap.size by omega) (show a≠g by omega)).trans a0,(hw.cell (show a<W.heap.size by omega) (show a≠g by omega)).trans a1,(hw.cell (show b<W.heap.size by omega) (show b≠g by omega)).trans a2,(hw.cell (show b<W.heap.size by omega) (show b≠g by omega)).trans a3⟩
theorem oU (w:World) (a b c:Obj):(((w.alloc a).alloc b).alloc c).heap[w.heap.size]?=some a∧(((w.alloc a).alloc b).alloc c).heap[w.heap.size+1]?=some b∧(((w.alloc a).alloc b).alloc c).heap[w.heap.size+2]?=some c∧(((w.alloc a).alloc b).alloc c).heap.size=w.heap.size+3∧Below w.heap.size w (((w.alloc a).alloc b).alloc c):=by
 have h:(((w.alloc a).alloc b).alloc c).heap=((w.heap.push a).push b).push c:=rfl
 rw[h]
 refine⟨?_,?_,?_,by simp,aa (ax w a b) (ae _ _)⟩
 ·simp[Array.getElem?_push]
  omega
 ·rw[Array.getElem?_push,if_neg (by simp),Array.getElem?_push,if_pos (by simp)]
 ·rw[Array.getElem?_push,if_pos (by simp)]
theorem oj {a b c d:Int} (ha:nn a) (hb:nn b) (hc:nn c) (hd:nn d) (w:World) :
  Calls prog 48 #[bW a b,bW c d] w fun e w'=>e=.returned (bW (dS a c) (eg b d))∧Below w.heap.size w w':=by
 unfold bW
 have RM:=fun ts t W=>wP (P:=prog) ha hc ts t W
 have RX:=fun ts t W=>wQ (P:=prog) hb hd ts t W
 generalize wd (dS a c)=X at *
 generalize wd (eg b d)=Y at *
 generalize wd a=A at *
 generalize wd b=B at *
 generalize wd c=C at *
 generalize wd d=D at *
 obtain⟨q0,q1,q2,hs,hb3⟩:=oU w (.cells #[.float .f64 A,.float .f64 B] 64) (.cells #[.float .f64 C,.float .f64 D] 64) (.cells #[.float .f64 0,.float .f64 0] 64)
 have k0:=ab q0 0 rfl
 have k1:=ab q0 1 rfl
 have k2:=ab q1 0 rfl
 have k3:=ab q1 1 rfl
 replace q2:(((w.alloc (.cells #[.float .f64 A,.float .f64 B] 64)).alloc (.cells #[.float .f64 C,.float .f64 D] 64)).alloc (.cells #[.float .f64 0,.float .f64 0] 64)).heap[w.heap.size+1+1]?=some (.cells #[.float .f64 0,.float .f64 0] 64 (0,0)):=q2
 go_enter func48,ntmps48
 go_wp2_with fail
 clear q0 q1 k0 k1 k2 k3 hs RM RX
 generalize ((w.alloc (.cells #[.float .f64 A,.float .f64 B] 64)).alloc (.cells #[.float .f64 C,.float .f64 D] 64)).alloc (.cells #[.float .f64 0,.float .f64 0] 64)=wx at *
 obtain⟨g,hg⟩:∃ g,w.heap.size+1+1=g:=⟨_,rfl⟩
 have hwg:w.heap.size<=g:=by omega
 rw[hg] at q2
 simp only[hg]
 clear hg
 have d2:=ag q2 0 (.float .f64 X)
 have d3:=ag d2 1 (.float .f64 Y)
 have f0:=ab q2 0 rfl
 have z0:=ak q2 0
 have f1:=ab d2 1 rfl
 have z1:=ak d2 1
 have hbe:=(hb3.setCell (p:=⟨g,0,none⟩) hwg (.float .f64 X)).setCell (p:=⟨g,1,none⟩) hwg (.float .f64 Y)
 have s0:(store ⟨g,0,none⟩ (.float .f64 X)).run prog wx=.ok () (wx.setCell ⟨g,0,none⟩ (.float .f64 X)):=by rw[run_store _ _ _ _ _ rfl,f0];simp only[z0];rfl
 have s1:(store ⟨g,1,none⟩ (.float .f64 Y)).run prog (wx.setCell ⟨g,0,none⟩ (.float .f64 X))=.ok () ((wx.setCell ⟨g,0,none⟩ (.float .f64 X)).setCell ⟨g,1,none⟩ (.float .f64 Y)):=by rw[run_store _ _ _ _ _ rfl,f1];simp only[z1];rfl
 have e0:=ab d3 0 rfl
 have e1:=ab d3 1 rfl
 clear f0 z0 f1 z1 d2 d3 q2
 simp only[s0,s1,Result.andThen]
 go_wp2
 refine bodyPost_ret (v:=.agg #[.float .f64 X,.float .f64 Y]) (by simp[results,results48,go_sem,e0,e1]) rfl ⟨rfl,hbe⟩
end Go.Proofs.YtkkpppgfoilgmaaGreatDoor
