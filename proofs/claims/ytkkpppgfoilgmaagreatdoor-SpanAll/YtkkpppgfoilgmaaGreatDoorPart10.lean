/- Parts of the proof. -/
import Derived.Test.YtkkpppgfoilgmaaGreatDoorPart9
import Derived.Test.YtkkpppgfoilgmaaGreatDoorPart1
import Derived.Test.YtkkpppgfoilgmaaGreatDoorPart8
import Derived.Test.YtkkpppgfoilgmaaGreatDoorPart6
import Derived.Test.YtkkpppgfoilgmaaGreatDoorPart2
import Derived.Test.YtkkpppgfoilgmaaGreatDoorPart3
import Derived.Deep.RegionHeld3
set_option maxRecDepth 100000
set_option maxHeartbeats 8000000
set_option linter.unusedVariables false
set_option linter.unusedSimpArgs false
namespace Go.Proofs.YtkkpppgfoilgmaaGreatDoor
open Go Go.Proofs.Tryz Go.RowKit Go.Proofs.YtkkpppgfoilgmaaGreatDoor.M Ieee
def uh (way V p:Int):Prop:=∃ (A:Int) (r0:Nat) (left:Int),V=sg (decide (V<0)) A∧cZ A r0 left∧p=ay (decide (V<0)) (aX way (decide (V<0)) r0 left)
theorem uh.unique {way V p q:Int} (h:uh way V p) (k:uh way V q):p=q:=by
 obtain⟨A,r0,l,h1,h2,h3⟩:=h
 obtain⟨B,s0,m,k1,k2,k3⟩:=k
 have hAB:=iG (h1.symm.trans k1)
 subst hAB
 obtain⟨e1,e2⟩:=h2.unique k2
 subst e1 e2
 rw[h3,k3]
theorem Bx {way:Int} {ng sd:Bool} {M e:Int} (hv:0<M) (he:-4194304<=e) :
  ∃ (r0:Nat) (left:Int),cZ (M*pw e) r0 left∧ij way ng sd (M/2^vK M).toNat (e+vK M) (decide (M % 2^vK M≠0))=(ay (ng&&(decide (0<aX way ng r0 left)||sd)) (aX way ng r0 left),decide (left≠0)||decide (9218868437227405312<=(r0:Int))):=by
 have hsm:=jW (Int.le_of_lt hv)
 have hb:=gX hv
 have hp:=aJ (vK M)
 have hge:2^(aH M-1-vK M)<=M/2^vK M:=by
  rw[Int.le_ediv_iff_mul_le hp,<- Int.pow_add]
  by_cases hk:vK M<=aH M-1
  ·rw[show aH M-1-vK M+vK M=aH M-1 by omega]
   exact hb.2
  ·exfalso;unfold vK at hk;omega
 have hpos:=aJ (aH M-1-vK M)
 have e64:(2:Nat)^64=18446744073709551616:=by decide
 have e60:(2:Nat)^60=1152921504606846976:=by decide
 refine r7 (r8 (Int.le_of_lt hv) (by omega) _) (by omega) (by omega) (by omega) (fun hc=>?_)
 have hk0:0<vK M:=by
  rcases Nat.eq_zero_or_pos (vK M) with h|h
  ·rw[h,Int.pow_zero,Int.emod_one] at hc;simp at hc
  ·exact h
 have h61:aH M-1-vK M=61:=by unfold vK at hk0 ⊢;omega
 rw[h61] at hge
 have e61:(2:Int)^61=2305843009213693952:=by decide
 rw[e61] at hge
 omega
theorem mT {ng:Bool} {A:Int} (h:0<A):decide (sg ng A<0)=ng:=by
 cases ng
 ·exact decide_eq_false (by show ¬ A<0;omega)
 ·exact decide_eq_true (by show -A<0;omega)
theorem Ap {way V:Int} {ng:Bool} {M e:Int} (hV:V=sg ng (M*pw e)) (hv:0<M) (he:-4194304<=e) :
  uh way V (ij way ng true (M/2^vK M).toNat (e+vK M) (decide (M % 2^vK M≠0))).1:=by
 obtain⟨r0,left,h1,h2⟩:=Bx (way:=way) (ng:=ng) (sd:=true) hv he
 have hA:0<M*pw e:=Int.mul_pos hv (bT e)
 have hn:decide (V<0)=ng:=by rw[hV];exact mT hA
 refine⟨M*pw e,r0,left,by rw[hn];exact hV,h1,?_⟩
 rw[h2,hn]
 simp
def df (way V:Int):Int:=(ij way (decide (V<0)) true ((V.natAbs:Int)/2^vK (V.natAbs:Int)).toNat (-4194304+vK (V.natAbs:Int)) (decide ((V.natAbs:Int) % 2^vK (V.natAbs:Int)≠0))).1
theorem sA (way:Int) {V:Int} (h:V≠0):uh way V (df way V):=by
 refine Ap ?_ (by omega) (Int.le_refl _)
 rw[su,Int.mul_one]
 by_cases hn:V<0
 ·rw[decide_eq_true hn];show V=-(V.natAbs:Int);omega
 ·rw[decide_eq_false hn];show V=(V.natAbs:Int);omega
theorem mu {way V p:Int} (h0:V≠0) (h:uh way V p):df way V=p:=(sA way h0).unique h
theorem zj {V:Int} (h:V≠0):df 0 V=br V:=by
 obtain⟨A,r0,left,h1,h2,h3⟩:=fE h
 exact mu h ⟨A,r0,left,h1,h2,h3⟩
theorem DB {way V:Int} {ng:Bool} {m e:Int} (hy:Dy V ng m e) (h0:V≠0) (he:-4194304<=e) :
  (ij way ng true (m/2^vK m).toNat (e+vK m) (decide (m % 2^vK m≠0))).1=df way V:=by
 have hm:0<m:=by
  rcases hy.form with⟨f1,_⟩|⟨f1,_⟩
  ·exact absurd (hy.eq_zero.2 f1) h0
  ·exact f1
 refine(mu h0 (Ap ?_ hm he)).symm
 rw[hy.val]
 cases ng
 ·rfl
 ·show -m*pw e=-(m*pw e);rw[Int.neg_mul]
theorem jL (way:Int) {V:Int} (h:V≠0):au (df way V)∧aE (df way V)≠4:=by
 obtain⟨A,r0,left,_,_,h3⟩:=sA way h
 rw[h3]
 have:=cm way (decide (V<0)) r0 left
 exact fC this.1 this.2
theorem xh {p q:Int} (rp:au p) (rq:au q) (p0:0<=rg p) (p1:rg p<=9218868437227405312) (q0:0<=rg q) (q1:rg q<=9218868437227405312) (h:rg p=9218868437227405312∨rg q=9218868437227405312) :
  Datum.product (Ieee.double.read (wd p)) (Ieee.double.read (wd q))=if rg p=0∨rg q=0 then none else some (.infinity (bg p q)):=by
 have hX:(decide (p<0) ^^ decide (q<0))=bg p q:=oH _ _
 have hX2:(decide (q<0) ^^ decide (p<0))=bg p q:=by rw[<- hX];cases decide (p<0)<;>cases decide (q<0)<;>rfl
 by_cases ip:rg p=9218868437227405312
 ·have ep:=de rp ip
  by_cases iq:rg q=9218868437227405312
  ·rw[if_neg (by omega),ep,de rq iq,<- hX]
   rfl
  ·have pq:=(bp rq).2 (by omega)
   obtain⟨m,u,eq,vq⟩:=cG rq pq
   have hz:=lF rq pq vq
   rw[ep,eq]
   unfold Datum.product
   dsimp only
   by_cases hm:m=0
   ·rw[if_pos hm,if_pos (.inr (hz.1 hm))]
   ·rw[if_neg hm,if_neg (fun h=>by rcases h with h|h;omega;exact hm (hz.2 h)),hX]
 ·have iq:rg q=9218868437227405312:=by omega
  have pp:=(bp rp).2 (by omega)
  obtain⟨m,u,ep,vp⟩:=cG rp pp
  have hz:=lF rp pp vp
  have eq:=de rq iq
  rw[ep,eq]
  unfold Datum.product
  dsimp only
  by_cases hm:m=0
  ·rw[if_pos hm,if_pos (.inl (hz.1 hm))]
  ·rw[if_neg hm,if_neg (fun h=>by rcases h with h|h;exact hm (hz.2 h);omega),hX2]
def dU (p q r:Int):Int :=
 if aE p=4∨aE q=4∨aE r=4 then 9221120237041090561
 else if rg p=9218868437227405312∨rg q=9218868437227405312 then
  if rg p=0∨rg q=0 then 9221120237041090561
  else if rg r=9218868437227405312∧¬ bg p q=decide (r<0) then 9221120237041090561 else ay (bg p q) 9218868437227405312
 else if rg r=9218868437227405312 then r
 else if j5 p q r=0 then ay (bg p q&&decide (r<0)) 0 else br (j5 p q r)
theorem DC {p q r:Int} {x y z:Nat} (hx:FW p x) (hy:FW q y) (hz:FW r z):(∃ t,Ieee.double.fma x y z=some t∧FW (dU p q r) t)∨(Ieee.double.fma x y z=none∧dU p q r=9221120237041090561):=by
 by_cases h4:aE p=4∨aE q=4∨aE r=4
 ·right
  refine⟨?_,by unfold dU;rw[if_pos h4]⟩
  unfold Format.fma
  rcases h4 with h|h|h
  ·obtain⟨s,t,e⟩:=hx.read_nan h
   rw[e]
   rfl
  ·obtain⟨s,t,e⟩:=hy.read_nan h
   rw[e]
   cases Ieee.double.read x<;>rfl
  ·obtain⟨s,t,e⟩:=hz.read_nan h
   rw[e]
   cases Datum.product (Ieee.double.read x) (Ieee.double.read y) with
   | none=>rfl
   | some d=>cases d<;>rfl
 ·have h4p:aE p≠4:=fun h=>h4 (.inl h)
  have h4q:aE q≠4:=fun h=>h4 (.inr (.inl h))
  have h4r:aE r≠4:=fun h=>h4 (.inr (.inr h))
  obtain⟨rp,rfl,p0,p1⟩:=hx.of h4p
  obtain⟨rq,rfl,q0,q1⟩:=hy.of h4q
  obtain⟨rr,rfl,r0,r1⟩:=hz.of h4r
  have hI:=fC (ng:=bg p q) (r:=9218868437227405312) (by decide) (by decide)
  unfold dU
  rw[if_neg h4]
  by_cases hi:rg p=9218868437227405312∨rg q=9218868437227405312
  ·rw[if_pos hi]
   have hP:=xh rp rq p0 p1 q0 q1 hi
   by_cases h0:rg p=0∨rg q=0
   ·right
    rw[if_pos h0] at hP ⊢
    refine⟨?_,rfl⟩
    unfold Format.fma
    rw[hP]
    rfl
   ·rw[if_neg h0] at hP ⊢
    by_cases ir:rg r=9218868437227405312
    ·have er:=de rr ir
     by_cases hs:bg p q=decide (r<0)
     ·left
      rw[if_neg (fun h=>h.2 hs)]
      refine⟨_,?_,FW.pat hI.2 hI.1⟩
      unfold Format.fma
      rw[hP,er]
      show Option.map Ieee.double.write (Datum.sum (.infinity (bg p q)) (.infinity (decide (r<0))))=_
      unfold Datum.sum
      dsimp only
      rw[if_pos hs]
      show some (Ieee.double.write (.infinity (bg p q)))=_
      rw[iH]
     ·right
      rw[if_pos ⟨ir,hs⟩]
      refine⟨?_,rfl⟩
      unfold Format.fma
      rw[hP,er]
      show Option.map Ieee.double.write (Datum.sum (.infinity (bg p q)) (.infinity (decide (r<0))))=_
      unfold Datum.sum
      dsimp only
      rw[if_neg hs]
      rfl
    ·left
     obtain⟨l,v,er,_⟩:=cG rr ((bp rr).2 (by omega))
     rw[if_neg (fun h=>ir h.1)]
     refine⟨_,?_,FW.pat hI.2 hI.1⟩
     unfold Format.fma
     rw[hP,er]
     show some (Ieee.double.write (.infinity (bg p q)))=_
     rw[iH]
  ·rw[if_neg hi]
   have pp:=(bp rp).2 (by omega)
   have pq:=(bp rq).2 (by omega)
   by_cases ir:rg r=9218868437227405312
   ·left
    rw[if_pos ir]
    obtain⟨m,u,ep,_⟩:=cG rp pp
    obtain⟨n,v,eq,_⟩:=cG rq pq
    refine⟨wd r,?_,FW.pat h4r rr⟩
    unfold Format.fma
    rw[ep,eq,de rr ir]
    show some (Ieee.double.write (.infinity (decide (r<0))))=_
    rw[i9 rr ir]
   ·left
    rw[if_neg ir]
    refine⟨_,zi rp rq rr pp pq ((bp rr).2 (by omega)),?_⟩
    by_cases hS:j5 p q r=0
    ·rw[if_pos hS]
     obtain⟨g1,g2⟩:=fC (ng:=bg p q&&decide (r<0)) (r:=0) (by decide) (by decide)
     exact FW.pat g2 g1
    ·rw[if_neg hS]
     exact FW.pat (dZ hS).2 (dZ hS).1
end Go.Proofs.YtkkpppgfoilgmaaGreatDoor
namespace Go.Proofs.YtkkpppgfoilgmaaGreatDoor.M
def Fl (n:Int):Prop:=∃ k:Nat,(2^k:Int) ∣ n∧(n.natAbs:Int)<9007199254740992*2^k
def Nr (S h:Int):Prop:=Fl h∧∀ f,Fl f->(h-S).natAbs<=(f-S).natAbs
theorem p2 (k:Nat):(0:Int)<2^k:=Int.pow_pos (by decide)
theorem lY (k:Nat):(2:Int)^(k+1)=2*2^k:=by rw[Int.pow_succ,Int.mul_comm]
theorem ja {j k:Nat} (h:j<=k):(2^j:Int) ∣ 2^k:=⟨2^(k-j),by rw[<- Int.pow_add,Nat.add_sub_cancel' h]⟩
theorem sB {j k:Nat} (h:j<=k):(2:Int)^j<=2^k:=Int.le_of_dvd (p2 k) (ja h)
theorem zk {j k:Nat} (h:(2:Int)^j<2^k):j<k:=by
 rcases Nat.lt_or_ge j k with c|c
 ·exact c
 ·have:=sB c;omega
theorem Fl.neg {n:Int} (h:Fl n):Fl (-n):=by
 obtain⟨k,d,b⟩:=h
 exact⟨k,(Int.dvd_neg).2 d,by rw[Int.natAbs_neg];exact b⟩
theorem iU:Fl 0:=⟨0,⟨0,by simp⟩,by simp⟩
theorem mU {n:Int} {k:Nat} (d:(2^k:Int) ∣ n) (b:(n.natAbs:Int)<=9007199254740992*2^k):Fl n:=by
 by_cases c:(n.natAbs:Int)<9007199254740992*2^k
 ·exact⟨k,d,c⟩
 ·have e:(n.natAbs:Int)=9007199254740992*2^k:=by omega
  refine⟨k+1,?_,?_⟩
  ·rw[<- Int.dvd_natAbs,e,lY]
   exact⟨4503599627370496,by omega⟩
  ·rw[lY];have:=p2 k;omega
theorem Fl.dbl {n:Int} (h:Fl n):Fl (2*n):=by
 obtain⟨k,⟨c,rfl⟩,b⟩:=h
 refine⟨k+1,⟨c,by rw[lY,Int.mul_assoc]⟩,?_⟩
 rw[lY]
 omega
theorem Nr.neg {S h:Int} (n:Nr S h):Nr (-S) (-h):=by
 refine⟨n.1.neg,fun f hf=>?_⟩
 have:=n.2 (-f) hf.neg
 omega
theorem cV {S h:Int} (hS:Fl S) (n:Nr S h):h=S:=by
 have:=n.2 S hS
 omega
theorem sC {x y:Int} (hx:Fl x) (hy:Fl y) (h1:(x-y).natAbs<=x.natAbs) (h2:(x-y).natAbs<=y.natAbs):Fl (x-y):=by
 obtain⟨j,dx,bx⟩:=hx
 obtain⟨k,dy,by1⟩:=hy
 rcases Nat.le_total j k with c|c
 ·exact⟨j,Int.dvd_sub dx (Int.dvd_trans (ja c) dy),by omega⟩
 ·exact⟨k,Int.dvd_sub (Int.dvd_trans (ja c) dx) dy,by omega⟩
theorem xi {x y:Int} (hx:Fl x) (hy:Fl y) (h1:(x+y).natAbs<=x.natAbs) (h2:(x+y).natAbs<=y.natAbs):Fl (x+y):=by
 have e:x+y=x - -y:=by omega
 rw[e]
 exact sC hx hy.neg (by omega) (by omega)
theorem oI {S h:Int} {k:Nat} (n:Nr S h) (d:(2^k:Int) ∣ S) (h0:0<=S):(2^k:Int) ∣ h:=by
 by_cases c:(S.natAbs:Int)<=9007199254740992*2^k
 ·rw[cV (mU d c) n];exact d
 ·have hT:Fl (9007199254740992*2^k):=mU ⟨9007199254740992,by rw[Int.mul_comm]⟩ (by have:=p2 k;omega)
  have h1:=n.2 _ hT
  obtain⟨j,dj,bj⟩:=n.1
  have hk:=p2 k
  have hj:=p2 j
  have:(2:Int)^k<2^j:=by omega
  exact Int.dvd_trans (ja (Nat.le_of_lt (zk this))) dj
theorem sD {S h:Int} {k:Nat} (n:Nr S h) (d:(2^k:Int) ∣ S):(2^k:Int) ∣ h:=by
 rcases Int.le_total 0 S with c|c
 ·exact oI n d c
 ·have:=oI n.neg ((Int.dvd_neg).2 d) (by omega)
  exact(Int.dvd_neg).1 this
theorem pC {a b h:Int} (ha:Fl a) (hb:Fl b) (n:Nr (a+b) h):Fl (a+b-h):=by
 have e1:=n.2 a ha
 have e2:=n.2 b hb
 obtain⟨j,da,ba⟩:=ha
 obtain⟨k,db,bb⟩:=hb
 rcases Nat.le_total j k with c|c
 ·have d:=Int.dvd_add da (Int.dvd_trans (ja c) db)
  exact⟨j,Int.dvd_sub d (sD n d),by omega⟩
 ·have d:=Int.dvd_add (Int.dvd_trans (ja c) da) db
  exact⟨k,Int.dvd_sub d (sD n d),by omega⟩
theorem sE {a b h:Int} (ha:Fl a) (hb:Fl b) (h0:0<=a) (hab:b.natAbs<=a.natAbs) (n:Nr (a+b) h):Fl (h-a):=by
 have ea:=n.2 a ha
 have e2:=n.2 (2*a) ha.dbl
 have ez:=n.2 0 iU
 by_cases hs:a<=2*h
 ·exact sC n.1 ha (by omega) (by omega)
 ·have hS:Fl (a+b):=by
   obtain⟨k,⟨c,hc⟩,ba⟩:=ha
   cases k with
   | zero=>exact⟨0,⟨a+b,by simp⟩,by simp at ba ⊢;omega⟩
   | succ k=>
    have hf:Fl (2^k*c):=⟨k,⟨c,rfl⟩,by rw[lY] at ba hc;rw[Int.mul_assoc] at hc;omega⟩
    have e3:=n.2 _ hf
    rw[lY,Int.mul_assoc] at hc
    exact xi ⟨k+1,⟨c,by rw[lY,Int.mul_assoc];exact hc⟩,ba⟩ hb (by omega) (by omega)
  rw[cV hS n,show a+b-a=b by omega]
  exact hb
theorem nZ {a b h:Int} (ha:Fl a) (hb:Fl b) (hab:b.natAbs<=a.natAbs) (n:Nr (a+b) h):Fl (h-a):=by
 rcases Int.le_total 0 a with c|c
 ·exact sE ha hb c hab n
 ·have n2:=n.neg
  rw[show -(a+b)=-a + -b by omega] at n2
  have:=(sE ha.neg hb.neg (by omega) (by omega) n2).neg
  rwa [show -(-h - -a)=h-a by omega] at this
theorem sF (S:Int) (h0:0<=S):∃ k:Nat,S<9007199254740992*2^k∧(k=0∨4503599627370496*2^k<=S):=by
 have ex:∀ n:Nat,S<9007199254740992*2^n->∃ k:Nat,S<9007199254740992*2^k∧(k=0∨4503599627370496*2^k<=S):=by
  intro n
  induction n with
  | zero=>intro h;exact⟨0,h,.inl rfl⟩
  | succ n ih=>
   intro h
   by_cases c:S<9007199254740992*2^n
   ·exact ih c
   ·exact⟨n+1,h,.inr (by rw[lY];omega)⟩
 refine ex S.natAbs ?_
 have h1:S.natAbs<2^S.natAbs:=Nat.lt_two_pow_self
 have h2:((2^S.natAbs:Nat):Int)=2^S.natAbs:=by simp
 have h3:=p2 S.natAbs
 omega
theorem oJ {S h:Int} (n:Nr S h) (h0:0<=S):1000*(h-S).natAbs<=S.natAbs:=by
 obtain⟨k,b,c⟩:=sF S h0
 have hk:=p2 k
 have hm:=Int.emod_nonneg S (show(2:Int)^k≠0 by omega)
 have hl:=Int.emod_lt_of_pos S hk
 have hf:Fl (S-S % 2^k):=by
  refine mU (k:=k) ⟨S/2^k,by have:=Int.emod_add_mul_ediv S (2^k);omega⟩ ?_
  have:0<=S-S % 2^k:=by
   have:=Int.emod_add_mul_ediv S (2^k)
   have h2:0<=2^k*(S/2^k):=Int.mul_nonneg (by omega) (Int.ediv_nonneg h0 (by omega))
   omega
  omega
 have e:=n.2 _ hf
 rcases c with c|c
 ·subst c
  have:S % 2^0=0:=by simp
  omega
 ·omega
theorem xj {S h:Int} (n:Nr S h):1000*(h-S).natAbs<=S.natAbs:=by
 rcases Int.le_total 0 S with c|c
 ·exact oJ n c
 ·have:=oJ n.neg (by omega)
  omega
theorem By {a b h v u p q l:Int} (ha:Fl a) (hb:Fl b) (nh:Nr (a+b) h) (nv:Nr (h-a) v) (nu:Nr (h-v) u) (np:Nr (a-u) p) (nq:Nr (b-v) q) (nl:Nr (p+q) l):l=a+b-h:=by
 have hd:=pC ha hb nh
 -- the step nZ,where it is exact
 have A:Fl (h-a)->l=a+b-h:=by
  intro hx
  have e1:=cV hx nv
  subst e1
  rw[show h-(h-a)=a by omega] at nu
  have e2:=cV ha nu
  subst e2
  rw[show u-u=0 by omega] at np
  have e3:=cV iU np
  subst e3
  rw[show b-(h-u)=u+b-h by omega] at nq
  have e4:=cV hd nq
  subst e4
  rw[show 0+(u+b-h)=u+b-h by omega] at nl
  exact cV hd nl
 by_cases hab:b.natAbs<=a.natAbs
 ·exact A (nZ ha hb hab nh)
 by_cases hha:a.natAbs<=h.natAbs
 ·-- h-v is exact
  have n1:Nr (h + -a) v:=by rw[show h + -a=h-a by omega];exact nv
  have hx:=(nZ nh.1 ha.neg (by omega) n1).neg
  rw[show -(v-h)=h-v by omega] at hx
  have e1:=cV hx nu
  subst e1
  have hy:=(pC nh.1 ha.neg n1).neg
  rw[show -(h + -a-v)=a-(h-v) by omega] at hy
  have e2:=cV hy np
  subst e2
  have r1:=xj nh
  have r2:=nv.2 b hb
  have hz:Fl (b-v):=sC hb nv.1 (by omega) (by omega)
  have e3:=cV hz nq
  subst e3
  rw[show a-(h-v)+(b-v)=a+b-h by omega] at nl
  exact cV hd nl
 ·-- then the sum is exact
  have e1:=nh.2 a ha
  have e2:=nh.2 (-a) ha.neg
  have hS:Fl (a+b):=xi ha hb (by omega) (by omega)
  have e3:=cV hS nh
  exact A (by rw[e3,show a+b-a=b by omega];exact hb)
theorem zl {a b h v l:Int} (ha:Fl a) (hb:Fl b) (hab:b.natAbs<=a.natAbs) (nh:Nr (a+b) h) (nv:Nr (h-a) v) (nl:Nr (b-v) l):l=a+b-h:=by
 have hd:=pC ha hb nh
 have e1:=cV (nZ ha hb hab nh) nv
 subst e1
 rw[show b-(h-a)=a+b-h by omega] at nl
 exact cV hd nl
theorem Fa {S h T:Int} (n:Nr S h) (hT:Fl T) (c:T<=S):T<=h:=by
 have:=n.2 T hT
 omega
theorem Fb (i:Nat) {m:Nat} (hm:(m:Int)<=9007199254740992):Fl ((m:Int)*2^i):=by
 refine mU (k:=i) ⟨m,by rw[Int.mul_comm]⟩ ?_
 have h1:0<=(m:Int)*2^i:=Int.mul_nonneg (by omega) (Int.le_of_lt (p2 i))
 have h2:(m:Int)*2^i<=9007199254740992*2^i:=Int.mul_le_mul_of_nonneg_right hm (Int.le_of_lt (p2 i))
 omega
theorem zm {h:Int} {i:Nat} (f:Fl h) (c:4503599627370496*2^i<=(h.natAbs:Int)):(2^i:Int) ∣ h:=by
 obtain⟨j,d,b⟩:=f
 have hi:=p2 i
 have hj:=p2 j
 cases i with
 | zero=>exact⟨h,by simp⟩
 | succ i=>
  rw[lY] at c
  have:(2:Int)^i<2^j:=by omega
  exact Int.dvd_trans (ja (zk this)) d
theorem xk (S:Int) (i:Nat):∃ T:Int,(2^i:Int) ∣ T∧2*(T-S).natAbs<=(2^i:Int):=by
 have hi:=p2 i
 have hm:=Int.emod_nonneg S (show(2:Int)^i≠0 by omega)
 have hl:=Int.emod_lt_of_pos S hi
 have e:=Int.emod_add_mul_ediv S (2^i)
 generalize S % 2^i=t at *
 by_cases c:2*t<=2^i
 ·exact⟨S-t,⟨S/2^i,by omega⟩,by omega⟩
 ·exact⟨S-t+2^i,⟨S/2^i+1,by rw[Int.mul_add,Int.mul_one];omega⟩,by omega⟩
theorem DD {S h:Int} {i:Nat} (n:Nr S h) (c:(S.natAbs:Int)<=9007199254740992*2^i):2*((h-S).natAbs:Int)<=2^i:=by
 obtain⟨T,d,e⟩:=xk S i
 have hi:=p2 i
 have hT:Fl T:=by
  by_cases c2:(T.natAbs:Int)<=9007199254740992*2^i
  ·exact mU d c2
  ·exfalso
   obtain⟨t,rfl⟩:=d
   have h1:(9007199254740992:Int)<t.natAbs:=by
    rw[Int.natAbs_mul] at c2
    have e2:((2^i:Int).natAbs:Int)=2^i:=by omega
    push_cast at c2
    rcases Int.lt_or_le 9007199254740992 (t.natAbs:Int) with g|g
    ·exact g
    ·exfalso
     have:=Int.mul_le_mul_of_nonneg_left g (Int.le_of_lt hi)
     rw[e2] at c2
     omega
   have h2:(2^i:Int)*9007199254740993<=((2^i*t).natAbs:Int):=by
    rw[Int.natAbs_mul]
    have e2:((2^i:Int).natAbs:Int)=2^i:=by omega
    rw[Int.natCast_mul,e2]
    exact Int.mul_le_mul_of_nonneg_left (by omega) (Int.le_of_lt hi)
   generalize 2^i*t=T at *
   omega
 have:=n.2 T hT
 omega
structure DE (a h:Int) (j:Nat):Prop where
 up:(134217728*2^j:Int) ∣ h
 lo:(2^j:Int) ∣ a-h
 top:(h.natAbs:Int)<=9007199254740992*2^j
 low:((a-h).natAbs:Int)<=67108864*2^j
theorem DE.neg {a h:Int} {j:Nat} (s:DE a h j):DE (-a) (-h) j :=
 ⟨(Int.dvd_neg).2 s.up,by rw[show -a - -h=-(a-h) by omega];exact(Int.dvd_neg).2 s.lo,by rw[Int.natAbs_neg];exact s.top,by rw[show -a - -h=-(a-h) by omega,Int.natAbs_neg];exact s.low⟩
theorem mw (i:Nat) (t:Int):((2^i*t).natAbs:Int)=2^i*(t.natAbs:Int):=by
 have hi:=p2 i
 rw[Int.natAbs_mul,Int.natCast_mul,show((2^i:Int).natAbs:Int)=2^i by omega]
theorem Fl.down {i:Nat} {t:Int} (h:Fl (2^i*t)):Fl t:=by
 obtain⟨k,d,b⟩:=h
 rw[mw] at b
 rcases Nat.le_total i k with c|c
 ·obtain⟨e,rfl⟩:∃ e,k=i+e:=⟨k-i,by omega⟩
  rw[Int.pow_add] at d b
  refine⟨e,Int.dvd_of_mul_dvd_mul_left (by have:=p2 i;omega) d,?_⟩
  have e2:(9007199254740992:Int)*(2^i*2^e)=2^i*(9007199254740992*2^e):=by rw[<- Int.mul_assoc,<- Int.mul_assoc,Int.mul_comm _ (2^i)]
  rw[e2] at b
  exact Int.lt_of_mul_lt_mul_left b (Int.le_of_lt (p2 i))
 ·refine⟨0,⟨t,by simp⟩,?_⟩
  have h1:(9007199254740992:Int)*2^k<=2^i*9007199254740992:=by rw[Int.mul_comm];exact Int.mul_le_mul_of_nonneg_right (sB c) (by decide)
  have h2:=Int.lt_of_mul_lt_mul_left (Int.lt_of_lt_of_le b h1) (Int.le_of_lt (p2 i))
  simpa using h2
theorem Fl.up {t:Int} (h:Fl t) (i:Nat):Fl (2^i*t):=by
 obtain⟨k,⟨c,rfl⟩,b⟩:=h
 refine⟨i+k,⟨c,by rw[Int.pow_add,Int.mul_assoc]⟩,?_⟩
 rw[mw,Int.pow_add]
 have e2:(9007199254740992:Int)*(2^i*2^k)=2^i*(9007199254740992*2^k):=by rw[<- Int.mul_assoc,<- Int.mul_assoc,Int.mul_comm _ (2^i)]
 rw[e2]
 exact Int.mul_lt_mul_of_pos_left b (p2 i)
end Go.Proofs.YtkkpppgfoilgmaaGreatDoor.M
namespace Go.Proofs.YtkkpppgfoilgmaaGreatDoor
open Go Go.Proofs.Tryz Go.RowKit Go.Proofs.YtkkpppgfoilgmaaGreatDoor.M Ieee
def iV (p:Int):Int:=sg (decide (p<0)) (V Ieee.double (rg p).toNat:Int)
theorem dJ {p:Int} (hp:au p) (h:aC p=true):aF p=iV p*pw (-1074):=by
 rw[gY hp h];unfold iV vS;rw[jK]
theorem pD (n k:Nat):((n*2^k:Nat):Int)=2^k*(n:Int):=by rw[Int.natCast_mul,Int.mul_comm];simp
theorem FR {S q:Int} (hq:0<q) (h:S≠0):S*q≠0:=fun c=>by
 rcases Int.mul_eq_zero.1 c with d|d<;>omega
theorem Fc {S q:Int} (hq:0<q):decide (S*q<0)=decide (S<0):=by
 congr 1
 exact propext (ns hq).symm
theorem Fd {S q A:Int} (hq:0<q) (h:S*q=sg (decide (S<0)) A):A=(S.natAbs:Int)*q:=by
 have:=qh (t:=S) hq
 rw[this] at h
 exact(iG h).symm
theorem DF {S h:Int} (n:Nr (S.natAbs:Int) h):Nr S (sg (decide (S<0)) h):=by
 by_cases c:S<0
 ·rw[decide_eq_true c]
  have n2:=n.neg
  have e:-(S.natAbs:Int)=S:=by omega
  rw[e] at n2
  exact n2
 ·rw[decide_eq_false c]
  have e:(S.natAbs:Int)=S:=by omega
  rw[e] at n
  exact n
theorem vm (r:Nat):Fl (V Ieee.double r:Int):=by
 unfold V
 rw[jy]
 by_cases h:r<4503599627370496
 ·rw[if_pos h]
  exact⟨0,⟨r,by simp⟩,by simp;omega⟩
 ·rw[if_neg h]
  have hm:=Nat.mod_lt r (show 0<4503599627370496 by decide)
  obtain⟨n,hn⟩:∃ n,4503599627370496+r % 4503599627370496=n:=⟨_,rfl⟩
  rw[hn]
  refine⟨r/4503599627370496-1,⟨n,pD _ _⟩,?_⟩
  rw[Int.natAbs_natCast,pD,Int.mul_comm]
  exact Int.mul_lt_mul_of_pos_right (by omega) (p2 _)
theorem FS {f:Int} (h:Fl f):∃ r:Nat,(f.natAbs:Int)=(V Ieee.double r:Int):=by
 obtain⟨k,b,c⟩:=sF (f.natAbs:Int) (by omega)
 rcases Nat.eq_zero_or_pos k with g|g
 ·subst g
  have:=ii Ieee.double 0 f.natAbs (.inl ⟨rfl,by rw[jy];simp at b;omega⟩)
  exact⟨_,by rw[this];simp⟩
 ·have c2:4503599627370496*2^k<=(f.natAbs:Int):=by
   rcases c with c|c
   ·omega
   ·exact c
  obtain⟨t,ht⟩:=zm h c2
  have e:(f.natAbs:Int)=2^k*(t.natAbs:Int):=by rw[ht,mw]
  rw[e] at b c2
  have hk:=p2 k
  have b2:(t.natAbs:Int)<9007199254740992:=Int.lt_of_mul_lt_mul_left (by rw[Int.mul_comm (2^k) 9007199254740992];exact b) (Int.le_of_lt hk)
  have c3:4503599627370496<=(t.natAbs:Int):=Int.le_of_mul_le_mul_left (by rw[Int.mul_comm (2^k) 4503599627370496];exact c2) hk
  have:=ii Ieee.double k t.natAbs (.inr ⟨by rw[jy];omega,by rw[jy];omega⟩)
  exact⟨_,by rw[this,e];push_cast;rw[Int.mul_comm]⟩
theorem pE {r s:Nat} (h:r<=s):(V Ieee.double r:Int)<=V Ieee.double s:=by
 rcases Nat.lt_or_eq_of_le h with g|g
 ·have:=jR Ieee.double g;omega
 ·rw[g];omega
theorem FT {S:Int} {ng:Bool} {r0:Nat} {left:Int} (h0:0<=S) (hR:cZ (S*pw (-1074)) r0 left) (hf:aX 0 ng r0 left<9218868437227405312):Nr S (V Ieee.double (aX 0 ng r0 left).toNat:Int):=by
 obtain⟨lo,hi,l0,l1,l2,l3⟩:=hR
 have hq:=bT (-1074)
 unfold vS at *
 generalize pw (-1074)=q at *
 have g1:(V Ieee.double r0:Int)<=S:=Int.le_of_mul_le_mul_right lo hq
 have g2:S<(V Ieee.double (r0+1):Int):=Int.lt_of_mul_lt_mul_right hi (Int.le_of_lt hq)
 have g3:left=2->2*S=(V Ieee.double r0:Int)+V Ieee.double (r0+1):=fun c=>by
  have:=l2.1 c
  rw[<- Int.add_mul,<- Int.mul_assoc] at this
  exact Int.eq_of_mul_eq_mul_right (by omega) this
 have g4:left=3->(V Ieee.double r0:Int)+V Ieee.double (r0+1)<2*S:=fun c=>by
  have:=l3.1 c
  rw[<- Int.add_mul,<- Int.mul_assoc] at this
  exact Int.lt_of_mul_lt_mul_right this (Int.le_of_lt hq)
 have g5:left≠3->2*S<=(V Ieee.double r0:Int)+V Ieee.double (r0+1):=fun c=>by
  rcases Int.lt_or_le ((V Ieee.double r0:Int)+V Ieee.double (r0+1)) (2*S) with d|d
  ·have:=Int.mul_lt_mul_of_pos_right d hq
   rw[Int.add_mul,Int.mul_assoc] at this
   exact absurd (l3.2 this) c
  ·exact d
 clear l0 l1 l2 l3 lo hi
 have far:∀ f:Int,Fl f->f<=V Ieee.double r0∨V Ieee.double (r0+1)<=f:=by
  intro f hf
  obtain⟨s,hs⟩:=FS hf
  rcases Nat.lt_or_ge r0 s with c|c
  ·have:=pE (show r0+1<=s from c)
   have:=pE (show 0<=r0 by omega)
   omega
  ·have:=pE c
   omega
 unfold aX at hf ⊢
 by_cases hr:(r0:Int)<9218868437227405312
 ·rw[if_pos hr] at hf ⊢
  cases hu:bm 0 ng (decide (r0 % 2=1)) left
  ·rw[if_neg (by decide)]
   have e:((r0:Int)+0).toNat=r0:=by omega
   rw[e]
   have hl:left≠3:=fun c=>by
    subst c
    unfold bm at hu
    simp at hu
   refine⟨vm r0,fun f hf=>?_⟩
   have:=far f hf
   have:=g5 hl
   omega
  ·rw[if_pos rfl]
   have e:((r0:Int)+1).toNat=r0+1:=by omega
   rw[e]
   have hl:left=3∨left=2:=by
    unfold bm at hu
    simp at hu
    rcases hu with c|c
    ·exact .inl c
    ·exact .inr c.1
   refine⟨vm (r0+1),fun f hf=>?_⟩
   have:=far f hf
   rcases hl with c|c
   ·have:=g4 c;omega
   ·have:=g3 c;omega
 ·rw[if_neg hr] at hf
  unfold cL bm at hf
  simp at hf
def gZ:Int:=(V Ieee.double 9218868437227405311:Int)
theorem Fe {S:Int} {ng:Bool} {r0:Nat} {left:Int} (h0:S<=gZ) (hR:cZ (S*pw (-1074)) r0 left):aX 0 ng r0 left<9218868437227405312:=by
 obtain⟨lo,hi,l0,l1,l2,l3⟩:=hR
 have hq:=bT (-1074)
 unfold vS at *
 generalize pw (-1074)=q at *
 have g1:(V Ieee.double r0:Int)<=S:=Int.le_of_mul_le_mul_right lo hq
 have hr:r0<=9218868437227405311:=by
  rcases Nat.lt_or_ge 9218868437227405311 r0 with c|c
  ·have:=jR Ieee.double c
   unfold gZ at h0
   omega
  ·exact c
 unfold aX
 rw[if_pos (by omega)]
 by_cases c:r0=9218868437227405311
 ·have e:S=(V Ieee.double r0:Int):=by rw[c] at g1 ⊢;unfold gZ at h0;omega
  have:left=0:=l0.2 (by rw[e])
  subst this
  rw[if_neg (fun c=>fz c)]
  omega
 ·split<;>omega
theorem dV {ng:Bool} {r:Int} (h0:0<=r) (h1:r<=9218868437227405312):au (ay ng r)∧rg (ay ng r)=r∧decide (ay ng r<0)=ng:=by
 unfold ay au rg
 cases ng
 ·simp only[Bool.false_eq_true,if_false]
  rw[if_neg (by omega)]
  exact⟨by omega,rfl,decide_eq_false (by omega)⟩
 ·simp only[if_true]
  rw[if_pos (by omega)]
  exact⟨by omega,by omega,decide_eq_true (by omega)⟩
theorem iW {ng:Bool} {r:Int} (h0:0<=r) (h1:r<=9218868437227405312):aC (ay ng r)=decide (r<9218868437227405312):=by
 obtain⟨a,b,_⟩:=dV (ng:=ng) h0 h1
 have:=bp a
 rw[b] at this
 cases h:aC (ay ng r)
 ·refine(decide_eq_false fun c=>?_).symm
  rw[this.2 c] at h;cases h
 ·exact(decide_eq_true (this.1 h)).symm
theorem pF {ng:Bool} {r:Int} (h0:0<=r) (h1:r<=9218868437227405312):iV (ay ng r)=sg ng (V Ieee.double r.toNat:Int):=by
 obtain⟨_,b,c⟩:=dV (ng:=ng) h0 h1
 unfold iV
 rw[b,c]
theorem Bz:Nr 0 0:=⟨iU,fun f _=>by omega⟩
theorem ui {S:Int} (h:S≠0):au (br (S*pw (-1074)))∧(aC (br (S*pw (-1074)))=true->Nr S (iV (br (S*pw (-1074)))))∧((S.natAbs:Int)<=gZ->aC (br (S*pw (-1074)))=true):=by
 have hq:=bT (-1074)
 obtain⟨A,r0,left,e1,hR,e2⟩:=fE (FR hq h)
 rw[Fc hq] at e1 e2
 have hA:=Fd hq e1
 rw[hA] at hR
 have hrr:=cm 0 (decide (S<0)) r0 left
 rw[e2]
 refine⟨(dV hrr.1 hrr.2).1,fun hp=>?_,fun hb=>?_⟩
 ·rw[iW hrr.1 hrr.2] at hp
  have n:=FT (ng:=decide (S<0)) (Int.natCast_nonneg _) hR (of_decide_eq_true hp)
  rw[pF hrr.1 hrr.2]
  exact DF n
 ·rw[iW hrr.1 hrr.2]
  exact decide_eq_true (Fe hb hR)
end Go.Proofs.YtkkpppgfoilgmaaGreatDoor
namespace Go.Proofs.YtkkpppgfoilgmaaGreatDoor.M
open Go Go.Proofs.Tryz Ieee
theorem j6 {b:Int} (h:au b):au (rg b)∧0<=rg b:=by unfold au rg at *;split<;>omega
theorem oK {b:Int} (h:au b):aE (rg b)=aE b:=by
 unfold au at h;unfold aE rg bN bZ
 by_cases h0:b<0
 ·rw[if_pos h0,show(b+9223372036854775808)/4503599627370496 % 2048=b/4503599627370496 % 2048 from by omega,show(b+9223372036854775808) % 4503599627370496=b % 4503599627370496 from by omega]
 ·rw[if_neg h0]
theorem FU {b:Int} (h:au b):wd b % 9223372036854775808=wd (rg b):=by unfold au rg wd at *;split<;>omega
theorem oL {b:Int} (h:0<=b):aw b=b:=by unfold aw;rw[if_neg (by omega)]
theorem sG (b:Int):wd b<18446744073709551616:=by unfold wd;omega
theorem Ff {b:Int} (h:au b):(bits .andNot .u64 (wd b) 9223372036854775808).toNat=wd (rg b):=by
 have e:=FU h
 have l:=sG b
 rw[<- e]
 show(IntKind.u64.wrap (((BitVec.ofInt 64 (wd b:Int) &&& ~~~ BitVec.ofInt 64 9223372036854775808).toNat:Nat):Int)).toNat=_
 rw[BitVec.toNat_and,BitVec.toNat_not,eJ,eJ,show(2^64-1-((9223372036854775808:Int) % 18446744073709551616).toNat)=2^63-1 from by decide,Nat.and_two_pow_sub_one_eq_mod,IntKind.wrap_u64]
 omega
theorem vr {b:Int} (h:aC b=true):¬ aE b=4:=by
 have:=ol h
 unfold aE;rw[if_neg this];split
 ·split<;>omega
 ·omega
theorem gL {a b:Int} (ha:au a) (hb:au b) (h1:¬ aE a=4) (h2:¬ aE b=4) (h:aw a<aw b):FloatKind.f64.format.order (wd a) (wd b)=some .lt:=by rw[mN ha hb h1 h2,fo h]
theorem gM {a b:Int} (ha:au a) (hb:au b) (h1:¬ aE a=4) (h2:¬ aE b=4) (h:aw b<aw a):FloatKind.f64.format.order (wd a) (wd b)=some .gt:=by rw[mN ha hb h1 h2,fs h]
theorem gN {a b:Int} (ha:au a) (hb:au b) (h1:¬ aE a=4) (h2:¬ aE b=4) (h:aw a=aw b):FloatKind.f64.format.order (wd a) (wd b)=some .eq:=by rw[mN ha hb h1 h2,jC h]
def vs (b:Int):Bool:=decide (rg b=0)||(decide (3931642474694443008<=rg b)&&decide (rg b<5282722362905591808))
def nn (p:Int):Prop:=au p∧¬ aE p=4
def bJ (a b:Int):Int:=if aw a<aw b then a else if aw b<aw a then b else if a=b then a else -9223372036854775808
def bP (a b:Int):Int:=if aw a<aw b then b else if aw b<aw a then a else if a=b then a else 0
theorem il {a b:Int} (ha:au a) (hb:au b) (h:aw a=aw b) (hn:¬ a=b):(a=0∧b=-9223372036854775808)∨(a=-9223372036854775808∧b=0):=by
 unfold aw au at *
 split at h<;>split at h<;>omega
theorem dR:nn 0∧nn (-9223372036854775808):=by refine⟨⟨?_,by decide⟩,⟨?_,by decide⟩⟩<;>(unfold au;omega)
theorem eK {a b:Int} (ha:nn a) (hb:nn b):nn (bJ a b)∧aw (bJ a b)<=aw a∧aw (bJ a b)<=aw b∧(aw (bJ a b)=aw a∨aw (bJ a b)=aw b):=by
 unfold bJ
 split
 ·exact⟨ha,by omega,by omega,.inl rfl⟩
 ·split
  ·exact⟨hb,by omega,by omega,.inr rfl⟩
  ·split
   ·exact⟨ha,by omega,by omega,.inl rfl⟩
   ·have e:aw a=aw b:=by omega
    have e0:aw (-9223372036854775808)=0:=by decide
    have e1:aw 0=0:=by decide
    rcases il ha.1 hb.1 e (by assumption) with⟨rfl,rfl⟩|⟨rfl,rfl⟩
    ·exact⟨dR.2,by omega,by omega,.inr rfl⟩
    ·exact⟨dR.2,by omega,by omega,.inl rfl⟩
theorem eL {a b:Int} (ha:nn a) (hb:nn b):nn (bP a b)∧aw a<=aw (bP a b)∧aw b<=aw (bP a b)∧(aw (bP a b)=aw a∨aw (bP a b)=aw b):=by
 unfold bP
 split
 ·exact⟨hb,by omega,by omega,.inr rfl⟩
 ·split
  ·exact⟨ha,by omega,by omega,.inl rfl⟩
  ·split
   ·exact⟨ha,by omega,by omega,.inl rfl⟩
   ·have e:aw a=aw b:=by omega
    have e0:aw (-9223372036854775808)=0:=by decide
    have e1:aw 0=0:=by decide
    rcases il ha.1 hb.1 e (by assumption) with⟨rfl,rfl⟩|⟨rfl,rfl⟩
    ·exact⟨dR.1,by omega,by omega,.inl rfl⟩
    ·exact⟨dR.1,by omega,by omega,.inr rfl⟩
def aK (lo hi:Int):Bool:=decide (¬ aE lo=4∧¬ aE hi=4∧aw lo<=aw hi∧aw lo<9218868437227405312∧-9218868437227405312<aw hi)
theorem cW {lo hi:Int}:aK lo hi=true↔¬ aE lo=4∧¬ aE hi=4∧aw lo<=aw hi∧aw lo<9218868437227405312∧-9218868437227405312<aw hi:=by unfold aK;exact decide_eq_true_iff
theorem co {p:Int} (h:nn p):aw (az p)=aw p∧nn (az p):=by
 have h0:=CZ h.1
 unfold az
 rw[if_neg h.2]
 split
 ·rename_i hz
  rcases h0.1 hz with rfl|rfl
  ·exact⟨rfl,dR.1⟩
  ·exact⟨by decide,dR.1⟩
 ·exact⟨rfl,h⟩
end Go.Proofs.YtkkpppgfoilgmaaGreatDoor.M
namespace Go.Proofs.YtkkpppgfoilgmaaGreatDoor
open Go Go.Proofs.Tryz Go.RowKit Go.Proofs.YtkkpppgfoilgmaaGreatDoor.M
theorem jM {b:Int} (hb:au b) (w:World) :
  Calls prog 77 #[.float .f64 (wd b)] w fun e w'=>e=.returned (.float .f64 (wd (rg b)))∧w'=w:=by
 have h1:=gw
 have h2:=eP
 go_enter func77,ntmps77
 go_wp2
 go_ret
 exact⟨dY (Ff hb),rfl⟩
theorem ql {p B g o:Nat} {v x0 x1:Value} {W:World} (hg:B<=g) (h:p<B∧B<=W.heap.size∧W.cell? ⟨p,0,none⟩=some x0∧W.cell? ⟨p,1,none⟩=some x1) :
  p<B∧B<=(W.setCell ⟨g,o,none⟩ v).heap.size∧(W.setCell ⟨g,o,none⟩ v).cell? ⟨p,0,none⟩=some x0∧(W.setCell ⟨g,o,none⟩ v).cell? ⟨p,1,none⟩=some x1:=by
 have hw:Wr g W (W.setCell ⟨g,o,none⟩ v):=(Wr.refl g W).setCell o v
 obtain⟨h1,h2,a0,a1⟩:=h
 have hp:p<W.heap.size:=by omega
 have hne:p≠g:=by omega
 exact⟨h1,Nat.le_trans h2 hw.size,(hw.cell hp hne).trans a0,(hw.cell hp hne).trans a1⟩
theorem aj {w:World} {g:Nat} {xs:Array Value} {t:TypeId} (h:w.heap[g]?=some (.cells xs t (0,0))) (i:Nat) (v:Value):(w.setCell ⟨g,i,none⟩ v).heap[g]?=some (.cells (xs.setIfInBounds i v) t (0,0)):=by
 simp[World.setCell,Array.getElem?_modify,h]
def q0 (b:Int):Int:=if b=-9223372036854775808 then 0 else b
theorem am {w w':World} {p:Addr} {v:Value} (h:w.cell? p=some v) (hb:Below w.heap.size w w'):w'.cell? p=some v :=
 (hb.cell (World.block_lt_of_cell? w _ h)).trans h
theorem Q4.keeps {a b:Nat} {x0 x1 x2 x3:Value} {W W':World} (h:W.cell? ⟨a,0,none⟩=some x0∧W.cell? ⟨a,1,none⟩=some x1∧W.cell? ⟨b,0,none⟩=some x2∧W.cell? ⟨b,1,none⟩=some x3) (hb:Below W.heap.size W W') :
  W'.cell? ⟨a,0,none⟩=some x0∧W'.cell? ⟨a,1,none⟩=some x1∧W'.cell? ⟨b,0,none⟩=some x2∧W'.cell? ⟨b,1,none⟩=some x3 :=
 ⟨am h.1 hb,am h.2.1 hb,am h.2.2.1 hb,am h.2.2.2 hb⟩
def bU (lo hi:Int):Value:=.agg #[.float .f64 (wd lo),.float .f64 (wd hi)]
def bf (lo hi:Int):Value:=.agg #[.int .i64 lo,.int .i64 hi]
theorem gk (x y:Int) (w:World) :
  Calls prog 37 #[bf x y] w fun e w'=>e=.returned (bU x y)∧w'=((w.alloc (.cells #[.int .i64 x,.int .i64 y] 23)).alloc (.cells #[.float .f64 (wd x),.float .f64 (wd y)] 64)).drew:=by
 unfold bf bU
 have hx:Hid ((((w.alloc (.cells #[.int .i64 x,.int .i64 y] 23)).alloc (.cells #[.float .f64 0,.float .f64 0] 64)).setCell ⟨w.heap.size+1,0,none⟩ (.float .f64 (wd x))).setCell ⟨w.heap.size+1,1,none⟩ (.float .f64 (wd y))=(w.alloc (.cells #[.int .i64 x,.int .i64 y] 23)).alloc (.cells #[.float .f64 (wd x),.float .f64 (wd y)] 64)):=by
  unfold Hid
  rw[World.setCell_alloc_at _ _ _ _ _ (by simp),World.setCell_alloc_at _ _ _ _ _ (by simp)]
  rfl
 have hb2:=ar w (.cells #[.int .i64 x,.int .i64 y] 23) (.cells #[.float .f64 0,.float .f64 0] 64)
 have q0:=aU w (.cells #[.int .i64 x,.int .i64 y] 23) (.cells #[.float .f64 0,.float .f64 0] 64)
 have q1:=aR w (.cells #[.int .i64 x,.int .i64 y] 23) (.cells #[.float .f64 0,.float .f64 0] 64)
 have hs:=i8 w (.cells #[.int .i64 x,.int .i64 y] 23) (.cells #[.float .f64 0,.float .f64 0] 64)
 have k0:=aa q0 0 rfl
 have k1:=aa q0 1 rfl
 go_enter func37,ntmps37
 go_wp2_with fail
 generalize hwx:(w.alloc (.cells #[.int .i64 x,.int .i64 y] 23)).alloc (.cells #[.float .f64 0,.float .f64 0] 64)=wx at hb2 q0 q1 hs k0 k1 hx ⊢
 clear hwx
 have hc:w.heap.size<w.heap.size+1∧w.heap.size+1<=wx.drew.heap.size∧wx.drew.cell? ⟨w.heap.size,0,none⟩=some (.int .i64 x)∧wx.drew.cell? ⟨w.heap.size,1,none⟩=some (.int .i64 y):=⟨by omega,by show _<=wx.heap.size;omega,k0,k1⟩
 have d1:wx.drew.heap[w.heap.size+1]?=some (.cells #[.float .f64 0,.float .f64 0] 64 (0,0)):=q1
 have d2:((wx.setCell ⟨w.heap.size+1,0,none⟩ (.float .f64 (wd x))).drew).heap[w.heap.size+1]?=some (.cells #[.float .f64 (wd x),.float .f64 0] 64 (0,0)):=aj d1 0 (.float .f64 (wd x))
 have d3:(((wx.setCell ⟨w.heap.size+1,0,none⟩ (.float .f64 (wd x))).setCell ⟨w.heap.size+1,1,none⟩ (.float .f64 (wd y))).drew).heap[w.heap.size+1]?=some (.cells #[.float .f64 (wd x),.float .f64 (wd y)] 64 (0,0)):=aj d2 1 (.float .f64 (wd y))
 have f0:=aa d1 0 rfl
 have z0:=af d1 0
 have f1:=aa d2 1 rfl
 have z1:=af d2 1
 have s0:(store ⟨w.heap.size+1,0,none⟩ (.float .f64 (wd x))).run prog wx.drew=.ok () ((wx.setCell ⟨w.heap.size+1,0,none⟩ (.float .f64 (wd x))).drew):=by rw[run_store _ _ _ _ _ rfl,f0];simp only[z0];rfl
 have s1:(store ⟨w.heap.size+1,1,none⟩ (.float .f64 (wd y))).run prog ((wx.setCell ⟨w.heap.size+1,0,none⟩ (.float .f64 (wd x))).drew)=.ok () (((wx.setCell ⟨w.heap.size+1,0,none⟩ (.float .f64 (wd x))).setCell ⟨w.heap.size+1,1,none⟩ (.float .f64 (wd y))).drew):=by rw[run_store _ _ _ _ _ rfl,f1];simp only[z1];rfl
 go_region_held3 (fun W=>w.heap.size<w.heap.size+1∧w.heap.size+1<=W.heap.size∧W.cell? ⟨w.heap.size,0,none⟩=some (.int .i64 x)∧W.cell? ⟨w.heap.size,1,none⟩=some (.int .i64 y))
  (first|assumption|(repeat (first|exact hc|refine ql (by omega) ?_)))
  ((go_at_call 46;refine(ik _ _).mono ?_;rintro _ _ ⟨rfl,rfl⟩))
 have e0:=aa d3 0 rfl
 have e1:=aa d3 1 rfl
 clear s0 s1 f0 f1 z0 z1 d1 d2 d3
 generalize (wx.setCell ⟨w.heap.size+1,0,none⟩ (.float .f64 (wd x))).setCell ⟨w.heap.size+1,1,none⟩ (.float .f64 (wd y))=wy at *
 go_wp2
 refine bodyPost_ret (v:=.agg #[.float .f64 (wd x),.float .f64 (wd y)]) (by simp[results,results37,go_sem,e0,e1]) rfl ⟨rfl,by rw[hx.out]⟩
theorem fF (x y:Int) (w:World) :
  Calls prog 37 #[bf x y] w fun e w'=>e=.returned (bU x y)∧Below w.heap.size w w' :=
 (gk x y w).mono fun _ _ ⟨h1,h2⟩=>⟨h1,by rw[h2];exact(ar w _ _).drew⟩
theorem zn {p:Int} (h:nn p) (w:World) :
  Calls prog 59 #[.float .f64 (wd p),.int .i64 1] w fun e w'=>e=.returned (.bool (decide (9218868437227405312<=aw p)))∧w'=w:=by
 have r:au 9218868437227405311:=by unfold au;omega
 have c:¬ aE 9218868437227405311=4:=by decide
 have k:aw 9218868437227405311=9218868437227405311:=by decide
 have e:wd 9218868437227405311=9218868437227405311:=by decide
 rcases Int.lt_trichotomy (aw p) 9218868437227405311 with g|g|g
 ·have o:=gL h.1 r h.2 c (by rw[k];exact g)
  rw[e] at o
  rw[decide_eq_false (by omega)]
  go_enter func59,ntmps59
  go_wp2
  go_ret
  exact⟨rfl,rfl⟩
 ·have o:=gN h.1 r h.2 c (by rw[k];exact g)
  rw[e] at o
  rw[decide_eq_false (by omega)]
  go_enter func59,ntmps59
  go_wp2
  go_ret
  exact⟨rfl,rfl⟩
 ·have o:=gM h.1 r h.2 c (by rw[k];exact g)
  rw[e] at o
  rw[decide_eq_true (by omega)]
  go_enter func59,ntmps59
  go_wp2
  go_ret
  exact⟨rfl,rfl⟩
theorem DG {p:Int} (h:nn p):Op.negFloat .f64 (wd p)=wd (neg p):=by
 have hr:=h.1
 unfold Op.negFloat
 show wd p ^^^ 2^63=_
 unfold neg
 rw[if_neg h.2]
 unfold au at hr
 by_cases h0:p<0
 ·rw[if_pos h0]
  have e:wd p=2^63+wd (p+9223372036854775808):=by unfold wd;omega
  rw[e,ym 63 _ (by unfold wd;omega)]
 ·rw[if_neg h0,Nat.xor_comm,tG 63 _ (by unfold wd;omega)]
  unfold wd;omega
theorem lG {P:Program} {p:Int} (h:nn p) (w:World):(Op.unary UnOp.neg (.float .f64 (wd p))).run P w=.ok (.float .f64 (wd (neg p))) w:=by
 show(pure (Value.float .f64 (Op.negFloat .f64 (wd p))):Sem Value).run P w=_
 rw[DG h]
 rfl
theorem cu {p:Int} (h:nn p):nn (neg p)∧aw (neg p)=- aw p:=by
 obtain⟨a,b⟩:=pz h.1 h.2
 exact⟨⟨gp h.1,b⟩,a⟩
theorem vt {p:Int} (h:nn p) (w:World) :
  Calls prog 59 #[.float .f64 (wd p),.int .i64 (-1)] w fun e w'=>e=.returned (.bool (decide (aw p <= -9218868437227405312)))∧w'=w:=by
 have r:au 9218868437227405311:=by unfold au;omega
 have c:¬ aE 9218868437227405311=4:=by decide
 have k:aw 9218868437227405311=9218868437227405311:=by decide
 have e:wd 9218868437227405311=9218868437227405311:=by decide
 have hN:=fun W=>lG (P:=prog) h W
 obtain⟨g0,g1⟩:=cu h
 rcases Int.lt_trichotomy (aw (neg p)) 9218868437227405311 with g|g|g
 ·have o:=gL g0.1 r g0.2 c (by rw[k];exact g)
  rw[e] at o
  rw[decide_eq_false (by omega)]
  clear g1 g
  go_enter func59,ntmps59
  go_wp2
  go_ret
  exact⟨rfl,rfl⟩
 ·have o:=gN g0.1 r g0.2 c (by rw[k];exact g)
  rw[e] at o
  rw[decide_eq_false (by omega)]
  clear g1 g
  go_enter func59,ntmps59
  go_wp2
  go_ret
  exact⟨rfl,rfl⟩
 ·have o:=gM g0.1 r g0.2 c (by rw[k];exact g)
  rw[e] at o
  rw[decide_eq_true (by omega)]
  clear g1 g
  go_enter func59,ntmps59
  go_wp2
  go_ret
  exact⟨rfl,rfl⟩
theorem cM {lo hi:Int} (hl:au lo) (hh:au hi) (w:World) :
  Calls prog 38 #[bU lo hi] w fun e w'=>e=.returned (.bool (aK lo hi))∧Below w.heap.size w w':=by
 unfold bU
 by_cases h4:aE lo=4∨aE hi=4
 ·have o:=kI hl hh h4
  rw[show aK lo hi=false from decide_eq_false (fun h=>by rcases h4 with g|g;exact h.1 g;exact h.2.1 g)]
  go_enter func38,ntmps38
  go_wp2
  go_ret
  exact⟨rfl,ae _ _⟩
 have h1:¬ aE lo=4:=fun h=>h4 (.inl h)
 have h2:¬ aE hi=4:=fun h=>h4 (.inr h)
 have CU:Hid (∀ W,Calls prog 59 #[.float .f64 (wd lo),.int .i64 1] W fun e w'=>e=.returned (.bool (decide (9218868437227405312<=aw lo)))∧w'=W):=fun W=>zn ⟨hl,h1⟩ W
 have CD:Hid (∀ W,Calls prog 59 #[.float .f64 (wd hi),.int .i64 (-1)] W fun e w'=>e=.returned (.bool (decide (aw hi <= -9218868437227405312)))∧w'=W):=fun W=>vt ⟨hh,h2⟩ W
 have q0:(w.alloc (.cells #[.float .f64 (wd lo),.float .f64 (wd hi)] 64)).heap[w.heap.size]?=some (.cells #[.float .f64 (wd lo),.float .f64 (wd hi)] 64 (0,0)):=by show(w.heap.push _)[w.heap.size]?=_;simp
 have k0:=aa q0 0 rfl
 have k1:=aa q0 1 rfl
 have hb:=ae w (.cells #[.float .f64 (wd lo),.float .f64 (wd hi)] 64)
 by_cases g:aw hi<aw lo
 ·have o:=gM hl hh h1 h2 g
  rw[show aK lo hi=false from decide_eq_false (fun h=>by omega)]
  clear CU CD
  go_enter func38,ntmps38
  go_wp2
  go_ret
  exact⟨rfl,ae _ _⟩
 have o:FloatKind.f64.format.order (wd lo) (wd hi)=some .lt∨FloatKind.f64.format.order (wd lo) (wd hi)=some .eq:=by
  by_cases e:aw lo=aw hi
  ·exact .inr (gN hl hh h1 h2 e)
  ·exact .inl (gL hl hh h1 h2 (by omega))
 by_cases a:9218868437227405312<=aw lo
 ·rw[show aK lo hi=false from decide_eq_false (fun h=>by omega)]
  rw[decide_eq_true a] at CU
  clear h4 g a CD q0 k0 k1
  rcases o with o|o
  all_goals
   go_enter func38,ntmps38
   go_wp2_with (go_at_call 59;refine(CU.out _).mono ?_;rintro _ _ ⟨rfl,rfl⟩)
   go_ret
   exact⟨rfl,hb⟩
 rw[decide_eq_false a] at CU
 by_cases b:aw hi <= -9218868437227405312
 ·rw[show aK lo hi=false from decide_eq_false (fun h=>by omega)]
  rw[decide_eq_true b] at CD
  clear h4 g a b q0 k0 k1
  rcases o with o|o
  all_goals
   go_enter func38,ntmps38
   go_wp2_with fail
   refine(CU.out _).mono ?_
   rintro _ _ ⟨rfl,rfl⟩
   go_wp2_with fail
   refine(CD.out _).mono ?_
   rintro _ _ ⟨rfl,rfl⟩
   go_wp2
   go_ret
   exact⟨rfl,hb⟩
 ·rw[show aK lo hi=true from decide_eq_true ⟨h1,h2,by omega,by omega,by omega⟩]
  rw[decide_eq_false b] at CD
  clear h4 g a b q0 k0 k1
  rcases o with o|o
  all_goals
   go_enter func38,ntmps38
   go_wp2_with fail
   refine(CU.out _).mono ?_
   rintro _ _ ⟨rfl,rfl⟩
   go_wp2_with fail
   refine(CD.out _).mono ?_
   rintro _ _ ⟨rfl,rfl⟩
   go_wp2
   go_ret
   exact⟨rfl,hb⟩
theorem DH {a b:Int} (ha:nn a) (hb:nn b) (h:aw a=aw b):(if (FloatKind.f64.decode (wd a)).neg then wd a else wd b)=wd (if a=b then a else -9223372036854775808):=by
 by_cases e:a=b
 ·subst e;rw[if_pos rfl];split<;>rfl
 ·rw[if_neg e]
  rcases il ha.1 hb.1 h e with⟨rfl,rfl⟩|⟨rfl,rfl⟩
  ·rfl
  ·rfl
theorem DI {a b:Int} (ha:nn a) (hb:nn b) (h:aw a=aw b):(if (FloatKind.f64.decode (wd a)).neg then wd b else wd a)=wd (if a=b then a else 0):=by
 by_cases e:a=b
 ·subst e;rw[if_pos rfl];split<;>rfl
 ·rw[if_neg e]
  rcases il ha.1 hb.1 h e with⟨rfl,rfl⟩|⟨rfl,rfl⟩
  ·rfl
  ·rfl
theorem sH {P:Program} {a b:Int} (ha:nn a) (hb:nn b) (ts:Array TypeId) (t:TypeId) (w:World):(Builtin.min_ ts t #[.float .f64 (wd a),.float .f64 (wd b)]).run P w=.ok (.float .f64 (wd (bJ a b))) w:=by
 have hf:(Builtin.min_ ts t #[.float .f64 (wd a),.float .f64 (wd b)])=(Builtin.min2 (.float .f64 (wd a)) (.float .f64 (wd b))):=by simp[Builtin.min_]
 rw[hf]
 unfold Builtin.min2 bJ
 rcases Int.lt_trichotomy (aw a) (aw b) with h|h|h
 ·rw[if_pos h]
  simp only[gL ha.1 hb.1 ha.2 hb.2 h]
  rfl
 ·rw[if_neg (by omega),if_neg (by omega)]
  simp only[gN ha.1 hb.1 ha.2 hb.2 h]
  rw[DH ha hb h]
  rfl
 ·rw[if_neg (by omega),if_pos h]
  simp only[gM ha.1 hb.1 ha.2 hb.2 h]
  rfl
theorem sI {P:Program} {a b:Int} (ha:nn a) (hb:nn b) (ts:Array TypeId) (t:TypeId) (w:World):(Builtin.max_ ts t #[.float .f64 (wd a),.float .f64 (wd b)]).run P w=.ok (.float .f64 (wd (bP a b))) w:=by
 have hf:(Builtin.max_ ts t #[.float .f64 (wd a),.float .f64 (wd b)])=(Builtin.max2 (.float .f64 (wd a)) (.float .f64 (wd b))):=by simp[Builtin.max_]
 rw[hf]
 unfold Builtin.max2 bP
 rcases Int.lt_trichotomy (aw a) (aw b) with h|h|h
 ·rw[if_pos h]
  simp only[gL ha.1 hb.1 ha.2 hb.2 h]
  rfl
 ·rw[if_neg (by omega),if_neg (by omega)]
  simp only[gN ha.1 hb.1 ha.2 hb.2 h]
  rw[DI ha hb h]
  rfl
 ·rw[if_neg (by omega),if_pos h]
  simp only[gM ha.1 hb.1 ha.2 hb.2 h]
  rfl
theorem kT {a b B g o:Nat} {v x0 x1 x2 x3:Value} {W:World} (hg:B<=g) (h:(a<B∧b<B∧B<=W.heap.size)∧W.cell? ⟨a,0,none⟩=some x0∧W.cell? ⟨a,1,none⟩=some x1∧W.cell? ⟨b,0,none⟩=some x2∧W.cell? ⟨b,1,none⟩=some x3) :
  (a<B∧b<B∧B<=(W.setCell ⟨g,o,none⟩ v).heap.size)∧(W.setCell ⟨g,o,none⟩ v).cell? ⟨a,0,none⟩=some x0∧(W.setCell ⟨g,o,none⟩ v).cell? ⟨a,1,none⟩=some x1∧(W.setCell ⟨g,o,none⟩ v).cell? ⟨b,0,none⟩=some x2∧(W.setCell ⟨g,o,none⟩ v).cell? ⟨b,1,none⟩=some x3:=by
 have hw:Wr g W (W.setCell ⟨g,o,none⟩ v):=(Wr.refl g W).setCell o v
 obtain⟨⟨h1,h2,h3⟩,a0,a1,a2,a3⟩:=h
 exact⟨⟨h1,h2,Nat.le_trans h3 hw.size⟩,(hw.cell (show a<W.heap.size by omega) (show a≠g by omega)).trans a0,(hw.cell (show a<W.heap.size by omega) (show a≠g by omega)).trans a1,(hw.cell (show b<W.heap.size by omega) (show b≠g by omega)).trans a2,(hw.cell (show b<W.heap.size by omega) (show b≠g by omega)).trans a3⟩
theorem gC (w:World) (a b c:Obj):(((w.alloc a).alloc b).alloc c).heap[w.heap.size]?=some a∧(((w.alloc a).alloc b).alloc c).heap[w.heap.size+1]?=some b∧(((w.alloc a).alloc b).alloc c).heap[w.heap.size+2]?=some c∧(((w.alloc a).alloc b).alloc c).heap.size=w.heap.size+3∧Below w.heap.size w (((w.alloc a).alloc b).alloc c):=by
 have h:(((w.alloc a).alloc b).alloc c).heap=((w.heap.push a).push b).push c:=rfl
 rw[h]
 refine⟨?_,?_,?_,by simp,ab (ar w a b) (ae _ _)⟩
 ·simp[Array.getElem?_push]
  omega
 ·rw[Array.getElem?_push,if_neg (by simp),Array.getElem?_push,if_pos (by simp)]
 ·rw[Array.getElem?_push,if_pos (by simp)]
theorem io {a b c d:Int} (ha:nn a) (hb:nn b) (hc:nn c) (hd:nn d) (w:World) :
  Calls prog 48 #[bU a b,bU c d] w fun e w'=>e=.returned (bU (bJ a c) (bP b d))∧Below w.heap.size w w':=by
 unfold bU
 have RM:=fun ts t W=>sH (P:=prog) ha hc ts t W
 have RX:=fun ts t W=>sI (P:=prog) hb hd ts t W
 generalize wd (bJ a c)=X at *
 generalize wd (bP b d)=Y at *
 generalize wd a=A at *
 generalize wd b=B at *
 generalize wd c=C at *
 generalize wd d=D at *
 obtain⟨q0,q1,q2,hs,hb3⟩:=gC w (.cells #[.float .f64 A,.float .f64 B] 64) (.cells #[.float .f64 C,.float .f64 D] 64) (.cells #[.float .f64 0,.float .f64 0] 64)
 have k0:=aa q0 0 rfl
 have k1:=aa q0 1 rfl
 have k2:=aa q1 0 rfl
 have k3:=aa q1 1 rfl
 replace q2:(((w.alloc (.cells #[.float .f64 A,.float .f64 B] 64)).alloc (.cells #[.float .f64 C,.float .f64 D] 64)).alloc (.cells #[.float .f64 0,.float .f64 0] 64)).heap[w.heap.size+1+1]?=some (.cells #[.float .f64 0,.float .f64 0] 64 (0,0)):=q2
 go_enter func48,ntmps48
 go_wp2_with fail
 clear q0 q1 k0 k1 k2 k3 hs RM RX
 generalize ((w.alloc (.cells #[.float .f64 A,.float .f64 B] 64)).alloc (.cells #[.float .f64 C,.float .f64 D] 64)).alloc (.cells #[.float .f64 0,.float .f64 0] 64)=wx at *
 obtain⟨g,hg⟩:∃ g,w.heap.size+1+1=g:=⟨_,rfl⟩
 have hwg:w.heap.size<=g:=by omega
 rw[hg] at q2
 simp only[hg]
 clear hg
 have d2:=aj q2 0 (.float .f64 X)
 have d3:=aj d2 1 (.float .f64 Y)
 have f0:=aa q2 0 rfl
 have z0:=af q2 0
 have f1:=aa d2 1 rfl
 have z1:=af d2 1
 have hbe:=(hb3.setCell (p:=⟨g,0,none⟩) hwg (.float .f64 X)).setCell (p:=⟨g,1,none⟩) hwg (.float .f64 Y)
 have s0:(store ⟨g,0,none⟩ (.float .f64 X)).run prog wx=.ok () (wx.setCell ⟨g,0,none⟩ (.float .f64 X)):=by rw[run_store _ _ _ _ _ rfl,f0];simp only[z0];rfl
 have s1:(store ⟨g,1,none⟩ (.float .f64 Y)).run prog (wx.setCell ⟨g,0,none⟩ (.float .f64 X))=.ok () ((wx.setCell ⟨g,0,none⟩ (.float .f64 X)).setCell ⟨g,1,none⟩ (.float .f64 Y)):=by rw[run_store _ _ _ _ _ rfl,f1];simp only[z1];rfl
 have e0:=aa d3 0 rfl
 have e1:=aa d3 1 rfl
 clear f0 z0 f1 z1 d2 d3 q2
 simp only[s0,s1,Result.andThen]
 go_wp2
 refine bodyPost_ret (v:=.agg #[.float .f64 X,.float .f64 Y]) (by simp[results,results48,go_sem,e0,e1]) rfl ⟨rfl,hbe⟩
end Go.Proofs.YtkkpppgfoilgmaaGreatDoor
