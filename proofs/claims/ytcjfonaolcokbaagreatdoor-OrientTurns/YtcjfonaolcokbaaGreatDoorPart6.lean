/- Parts of the proof. -/
import Derived.Test.YtcjfonaolcokbaaGreatDoorPart5
import Derived.ArgAppend
set_option maxRecDepth 100000
set_option maxHeartbeats 8000000
set_option linter.unusedVariables false
set_option linter.unusedSimpArgs false
namespace Go.Proofs.YtcjfonaolcokbaaGreatDoor
open Go Go.RowKit Go.Proofs.YtcjfonaolcokbaaGreatDoor.M Ieee
def sV (p q:Int):Int:=ap (ap p q) (neg p)
def sL (p q:Int):Int:=ap (ap p (neg (ap (ap p q) (neg (sV p q))))) (ap q (neg (sV p q)))
def fL (p q:Int):Int:=ap q (neg (ap (ap p q) (neg p)))
def cC (p:Int):Int:=aq 4728779608772575232 p
def gN (p:Int):Int:=ap (cC p) (neg (ap (cC p) (neg p)))
def fI (p:Int):Int:=ap p (neg (gN p))
def Ao (a b:Int):Int:=ap (aq a b) (neg (aq (gN a) (gN b)))
def Ap (a b:Int):Int:=ap (Ao a b) (neg (aq (fI a) (gN b)))
def Aq (a b:Int):Int:=ap (Ap a b) (neg (aq (gN a) (fI b)))
def bm (a b:Int):Int:=ap (aq (fI a) (fI b)) (neg (Aq a b))
theorem cI {w w':World} (h:w'=w∨w'=w.drew):Below w.heap.size w w':=by
 rcases h with rfl | rfl
 ·exact aA _
 ·exact (aA _).drew
theorem sG (x:Nat) (w:World):(convert 47 47 (.float .f64 x)).run Tryz.prog w=.ok (.float .f64 x) w:=run_convert_float_float w _ _ _ _ _ _ (by rw [Tryz.underlying47]; rfl) Tryz.underlying47 rfl
theorem Gi {p q:Int} {x y:Nat} (hx:FW p x) (hy:FW q y) (w:World) :
  Calls Tryz.prog 145 #[.float .f64 x,.float .f64 y] w fun e w'=>∃ z u,e=.returned (.tuple #[.float .f64 z,.float .f64 u])∧FW (ap p q) z∧FW (sL p q) u∧Below w.heap.size w w':=by
 obtain ⟨z1,w1,e1,f1,d1⟩:=sA (P:=Tryz.prog) 47 hx hy w
 obtain ⟨z2,w2,e2,f2,d2⟩:=cA (P:=Tryz.prog) 47 f1 hx w1
 obtain ⟨z3,w3,e3,f3,d3⟩:=cA (P:=Tryz.prog) 47 f1 f2 w2
 obtain ⟨z4,w4,e4,f4,d4⟩:=cA (P:=Tryz.prog) 47 hx f3 w3
 obtain ⟨z5,w5,e5,f5,d5⟩:=cA (P:=Tryz.prog) 47 hy f2 w4
 obtain ⟨z6,w6,e6,f6,d6⟩:=sA (P:=Tryz.prog) 47 f4 f5 w5
 have hb:Hid (Below w.heap.size w w6):=aa (aa (aa (aa (aa (cI d1) (cI d2)) (cI d3)) (cI d4)) (cI d5)) (cI d6)
 have H1:Hid (FW (ap p q) z1):=f1
 have H6:Hid (FW (sL p q) z6):=f6
 clear d1 d2 d3 d4 d5 d6 f1 f2 f3 f4 f5 f6 hx hy
 go_enter Tryz.func145,Tryz.ntmps145
 go_wp2
 refine bodyPost_ret (v:=.tuple #[.float .f64 z1,.float .f64 z6]) (by simp [results,Tryz.results145,go_sem]) rfl ⟨z1,z6,rfl,H1.out,H6.out,hb.out⟩
theorem vG {p q:Int} {x y:Nat} (hx:FW p x) (hy:FW q y) (w:World) :
  Calls Tryz.prog 154 #[.float .f64 x,.float .f64 y] w fun e w'=>∃ z u,e=.returned (.tuple #[.float .f64 z,.float .f64 u])∧FW (ap p q) z∧FW (fL p q) u∧Below w.heap.size w w':=by
 obtain ⟨z1,w1,e1,f1,d1⟩:=sA (P:=Tryz.prog) 47 hx hy w
 obtain ⟨z2,w2,e2,f2,d2⟩:=cA (P:=Tryz.prog) 47 f1 hx w1
 obtain ⟨z3,w3,e3,f3,d3⟩:=cA (P:=Tryz.prog) 47 hy f2 w2
 have hb:Hid (Below w.heap.size w w3):=aa (aa (cI d1) (cI d2)) (cI d3)
 have H1:Hid (FW (ap p q) z1):=f1
 have H6:Hid (FW (fL p q) z3):=f3
 clear d1 d2 d3 f1 f2 f3 hx hy
 go_enter Tryz.func154,Tryz.ntmps154
 go_wp2
 refine bodyPost_ret (v:=.tuple #[.float .f64 z1,.float .f64 z3]) (by simp [results,Tryz.results154,go_sem]) rfl ⟨z1,z3,rfl,H1.out,H6.out,hb.out⟩
theorem lU:aj 4728779608772575232:=by unfold aj; decide
theorem Gj:FW 4728779608772575232 4728779608772575232:=.inl ⟨by decide,lU,by decide⟩
theorem tC {p:Int} {x:Nat} (hx:FW p x) (w:World) :
  Calls Tryz.prog 121 #[.float .f64 x] w fun e w'=>∃ z u,e=.returned (.tuple #[.float .f64 z,.float .f64 u])∧FW (gN p) z∧FW (fI p) u∧Below w.heap.size w w':=by
 obtain ⟨z1,w1,e1,f1,d1⟩:=fF (P:=Tryz.prog) 47 Gj hx w
 obtain ⟨z2,w2,e2,f2,d2⟩:=cA (P:=Tryz.prog) 47 f1 hx w1
 obtain ⟨z3,w3,e3,f3,d3⟩:=cA (P:=Tryz.prog) 47 f1 f2 w2
 obtain ⟨z4,w4,e4,f4,d4⟩:=cA (P:=Tryz.prog) 47 hx f3 w3
 have hcv:=sG
 have hb:Hid (Below w.heap.size w w4):=aa (aa (aa (cI d1) (cI d2)) (cI d3)) (cI d4)
 have H1:Hid (FW (gN p) z3):=f3
 have H6:Hid (FW (fI p) z4):=f4
 clear d1 d2 d3 d4 f1 f2 f3 f4 hx
 go_enter Tryz.func121,Tryz.ntmps121
 go_wp2
 refine bodyPost_ret (v:=.tuple #[.float .f64 z3,.float .f64 z4]) (by simp [results,Tryz.results121,go_sem]) rfl ⟨z3,z4,rfl,H1.out,H6.out,hb.out⟩
theorem DN {p q:Int} {x y:Nat} (hx:FW p x) (hy:FW q y) (w:World) :
  Calls Tryz.prog 95 #[.float .f64 x,.float .f64 y] w fun e w'=>∃ z u,e=.returned (.tuple #[.float .f64 z,.float .f64 u])∧FW (aq p q) z∧FW (bm p q) u∧Below w.heap.size w w':=by
 obtain ⟨z1,w1,e1,f1,d1⟩:=fF (P:=Tryz.prog) 47 hx hy w
 have hcv:=sG
 have Hx:Hid (FW p x):=hx
 have Hy:Hid (FW q y):=hy
 have F1:Hid (FW (aq p q) z1):=f1
 have B1:Hid (Below w.heap.size w w1):=cI d1
 clear hx hy f1 d1
 go_enter Tryz.func95,Tryz.ntmps95
 go_wp2_with fail
 refine (tC Hx.out _).mono ?_
 rintro _ w2 ⟨P,Q,rfl,gP,gQ,b2⟩
 have GP:Hid (FW (gN p) P):=gP
 have GQ:Hid (FW (fI p) Q):=gQ
 have B2:Hid (Below w.heap.size w w2):=aa B1.out b2
 clear gP gQ b2 B1 e1
 go_wp2_with fail
 refine (tC Hy.out _).mono ?_
 rintro _ w3 ⟨R,S,rfl,gR,gS,b3⟩
 have hb3:=aa B2.out b3
 obtain ⟨z2,w4,e2,f2,d2⟩:=fF (P:=Tryz.prog) 47 GQ.out gS w3
 obtain ⟨z3,w5,e3,f3,d3⟩:=fF (P:=Tryz.prog) 47 GP.out gR w4
 obtain ⟨z4,w6,e4,f4,d4⟩:=cA (P:=Tryz.prog) 47 F1.out f3 w5
 obtain ⟨z5,w7,e5,f5,d5⟩:=fF (P:=Tryz.prog) 47 GQ.out gR w6
 obtain ⟨z6,w8,e6,f6,d6⟩:=cA (P:=Tryz.prog) 47 f4 f5 w7
 obtain ⟨z7,w9,e7,f7,d7⟩:=fF (P:=Tryz.prog) 47 GP.out gS w8
 obtain ⟨z8,wa,e8,f8,d8⟩:=cA (P:=Tryz.prog) 47 f6 f7 w9
 obtain ⟨z9,wb,e9,f9,d9⟩:=cA (P:=Tryz.prog) 47 f2 f8 wa
 have hb:Hid (Below w.heap.size w wb):=aa (aa (aa (aa (aa (aa (aa (aa hb3 (cI d2)) (cI d3)) (cI d4)) (cI d5)) (cI d6)) (cI d7)) (cI d8)) (cI d9)
 have H9:Hid (FW (bm p q) z9):=f9
 clear d2 d3 d4 d5 d6 d7 d8 d9 f2 f3 f4 f5 f6 f7 f8 f9 gR gS b3 hb3 B2 Hx Hy GP GQ
 go_wp2
 refine bodyPost_ret (v:=.tuple #[.float .f64 z1,.float .f64 z9]) (by simp [results,Tryz.results95,go_sem]) rfl ⟨z1,z9,rfl,F1.out,H9.out,hb.out⟩
theorem dE (p:Int):Fl (iV p):=by
 unfold iV
 cases decide (p<0)
 ·exact BD _
 ·exact (BD _).neg
theorem ix (p:Int):((iV p).natAbs:Int)=(V Ieee.double (rg p).toNat:Int):=by
 unfold iV sg
 cases decide (p<0)
 ·simp
 ·simp
theorem DO {p:Int} (hp:aj p) (h:ak p=true):((iV p).natAbs:Int)<=ii:=by
 rw [ix]
 have:=(bw hp).1 h
 exact uI (by omega)
theorem ij {p q:Int} (hp:aj p) (hq:aj q) (h:ak (sL p q)=true):(ak p=true∧ak q=true)∧ak (ap p q)=true∧iV (ap p q)+iV (sL p q)=iV p+iV q:=by
 have rh:=aH hp hq
 have rv:aj (sV p q):=aH rh (aZ hp)
 have rU:=aH rh (aZ rv)
 have rX:=aH hp (aZ rU)
 have rY:=aH hq (aZ rv)
 obtain ⟨pX,pY⟩:=vF rX rY h
 obtain ⟨pp,pU⟩:=dt hp rU pX
 obtain ⟨pq,pv⟩:=dt hq rv pY
 obtain ⟨ph,_⟩:=dt rh hp pv
 have e:=Jo (dE p) (dE q) ((eI hp hq pp pq).nr ph) ((bP rh hp ph pp).nr pv) ((bP rh rv ph pv).nr pU) ((bP hp rU pp pU).nr pX) ((bP hq rv pq pv).nr pY) ((eI rX rY pX pY).nr h)
 exact ⟨⟨pp,pq⟩,ph,by unfold sL; omega⟩
theorem uJ {p q:Int} (hp:aj p) (hq:aj q) (h:ak (fL p q)=true):(ak p=true∧ak q=true)∧ak (ap p q)=true:=by
 have rh:=aH hp hq
 have rv:aj (ap (ap p q) (neg p)):=aH rh (aZ hp)
 obtain ⟨pq,pv⟩:=dt hq rv h
 obtain ⟨ph,pp⟩:=dt rh hp pv
 exact ⟨⟨pp,pq⟩,ph⟩
theorem Jt {a b h:Int} (ha:Fl a) (hab:b.natAbs<=a.natAbs) (n:Nr (a+b) h):(h-a).natAbs<=a.natAbs:=by
 have e1:=n.2 _ ha
 have e2:=n.2 _ ha.dbl
 have e3:=n.2 _ co
 omega
theorem nL {p q:Int} (hp:aj p) (hq:aj q) (pp:ak p=true) (pq:ak q=true) (ph:ak (ap p q)=true) (hab:(iV q).natAbs<=(iV p).natAbs):ak (fL p q)=true∧iV (ap p q)+iV (fL p q)=iV p+iV q:=by
 have rh:=aH hp hq
 have rv:aj (ap (ap p q) (neg p)):=aH rh (aZ hp)
 have nh:=(eI hp hq pp pq).nr ph
 have sv:=bP rh hp ph pp
 have b1:=Jt (dE p) hab nh
 have pv:=sv.fin (by have:=DO hp pp; omega)
 have ev:=aY (sC (dE p) (dE q) hab nh) (sv.nr pv)
 have sl:=bP hq rv pq pv
 have e3:=nh.2 _ (dE p)
 have pl:=sl.fin (by rw [ev]; have:=DO hq pq; omega)
 have nl:=sl.nr pl
 have e4:=Gf (dE p) (dE q) hab nh (sv.nr pv) nl
 exact ⟨pl,by unfold fL; omega⟩
theorem mo {p q:Int} (hp:aj p) (hq:aj q) (pp:ak p=true) (pq:ak q=true):ap p q=if ar p+ar q=0 then aC (decide (p<0) && decide (q<0)) 0 else bu (ar p+ar q):=by
 obtain ⟨a1,a2⟩:=dT hp pp
 obtain ⟨b1,b2⟩:=dT hq pq
 unfold ap
 rw [if_neg (fun c=>c.elim a1 b1),if_neg a2,if_neg b2]
theorem vH {p q:Int} (hp:aj p) (hq:aj q) (pp:ak p=true) (pq:ak q=true):ap p q=ap q p:=by
 rw [mo hp hq pp pq,mo hq hp pq pp,Int.add_comm (ar q),Bool.and_comm (decide (q<0))]
def fX (p q:Int):Bool:=ak (fL p q) && (!decide ((iV p).natAbs<(iV q).natAbs) || decide (iV (fL p q)=iV (fL q p)))
theorem DP {p q:Int} (hp:aj p) (hq:aj q) (h:ak (fL p q)=true):fX p q=decide (iV (ap p q)+iV (fL p q)=iV p+iV q):=by
 obtain ⟨⟨pp,pq⟩,ph⟩:=uJ hp hq h
 unfold fX
 rw [h,Bool.true_and]
 by_cases c:(iV p).natAbs<(iV q).natAbs
 ·have hc:=vH hp hq pp pq
  obtain ⟨k1,k2⟩:=nL hq hp pq pp (by rw [<- hc]; exact ph) (by omega)
  rw [<- hc] at k2
  rw [decide_eq_true c]
  show decide _=decide _
  congr 1
  apply propext
  constructor <;> intro g <;> omega
 ·rw [decide_eq_false c]
  have:=(nL hp hq pp pq ph (by omega)).2
  rw [decide_eq_true this]
  rfl
theorem Il (k:Nat):((2^k:Nat):Int)=2^k:=by simp
theorem My {K:Nat} {A B:Int} (h:(K:Int)=A) (g:B=33554432*A):(((4503599627370496+33554432)*K:Nat):Int)=134217729*B:=by omega
theorem Gk (i j:Nat):(2:Int)^(i+j)=2^i*2^j:=Int.pow_add _ _ _
theorem BF {k:Nat} (hk:k=1049):V Ieee.double 4728779608772575232=(4503599627370496+33554432)*2^k:=by
 unfold V
 rw [kK,if_neg (by decide),show (4728779608772575232 % 4503599627370496:Nat)=33554432 by decide,show (4728779608772575232/4503599627370496-1:Nat)=k by omega]
theorem zE:iV 4728779608772575232=134217729*2^1074:=by
 obtain ⟨k,hk⟩:∃ k:Nat,k=1049:=⟨_,rfl⟩
 rw [show (1074:Nat)=25+k by omega]
 have e3:iV 4728779608772575232=(V Ieee.double 4728779608772575232:Int):=by
  unfold iV
  rw [show (rg 4728779608772575232).toNat=4728779608772575232 by decide,show decide ((4728779608772575232:Int)<0)=false by decide]
  exact Ol _
 have e2:=Gk 25 k
 rw [show (2:Int)^25=33554432 by decide] at e2
 rw [e3,BF hk]
 exact My (Il k) e2
structure Ar (a h l:Int):Prop where
 sum:h+l=a
 dvd:∀ k:Nat,(2^k:Int) ∣ a->(2^k:Int) ∣ h
 zero:a=0->h=0
 spl:a≠0->∃ x j:Nat,tB (2^x*a) (2^x*h) j∧4503599627370496*2^j<=((2^x*a).natAbs:Int)∧((2^x*a).natAbs:Int)<9007199254740992*2^j
theorem vI {p:Int} (hp:aj p) (pp:ak p=true):sD (134217729*iV p) (cC p):=by
 refine dq lU hp (by decide) pp ?_
 rw [zE]
 generalize (2:Int)^1074=k
 rw [<- Int.mul_assoc,Int.mul_comm k]
theorem KQ {a c d h l:Int} (ha:Fl a) (nc:Nr (134217729*a) c) (nd:Nr (c-a) d) (nh:Nr (c-d) h) (nl:Nr (a-h) l):Ar a h l:=by
 have dv:∀ k:Nat,(2^k:Int) ∣ a->(2^k:Int) ∣ h:=fun k g=>by
  have g1:=gk nc (Int.dvd_mul_of_dvd_right g)
  have g2:=gk nd (Int.dvd_sub g1 g)
  exact gk nh (Int.dvd_sub g1 g2)
 by_cases h0:a=0
 ·subst h0
  have e1:=aY co nc
  subst e1
  have e2:=aY co nd
  subst e2
  have e3:=aY co nh
  subst e3
  have e4:=aY co nl
  subst e4
  exact ⟨rfl,dv,fun _=>rfl,fun c=>absurd rfl c⟩
 ·obtain ⟨e,s⟩:=Gg ha h0 nc nd nh nl
  exact ⟨by omega,dv,fun c=>absurd c h0,fun _=>s⟩
theorem jR {p:Int} (hp:aj p) (h:ak (fI p)=true):ak p=true∧ak (gN p)=true∧Ar (iV p) (iV (gN p)) (iV (fI p)):=by
 have rc:aj (cC p):=aU lU hp
 have rd:=aH rc (aZ hp)
 have rH:aj (gN p):=aH rc (aZ rd)
 obtain ⟨pp,pH⟩:=dt hp rH h
 obtain ⟨pc,pd⟩:=dt rc rd pH
 exact ⟨pp,pH,KQ (dE p) ((vI hp pp).nr pc) ((bP rc hp pc pp).nr pd) ((bP rc rd pc pd).nr pH) ((bP hp rH pp pH).nr h)⟩
theorem vJ (n:Nat) (a b:Int):(2^n:Int) ∣ a*b->∃ i j:Nat,i+j=n∧(2^i:Int) ∣ a∧(2^j:Int) ∣ b:=by
 induction n with
 | zero=>intro _; exact ⟨0,0,rfl,⟨a,by simp⟩,⟨b,by simp⟩⟩
 | succ n ih=>
  intro h
  obtain ⟨i,j,e,⟨c,rfl⟩,⟨d,rfl⟩⟩:=ih (Int.dvd_trans (ct (by omega)) h)
  obtain ⟨t,ht⟩:=h
  have e2:(2:Int)^i*c*(2^j*d)=2^n*(c*d):=by
   rw [<- e,Int.pow_add,Int.mul_assoc,Int.mul_assoc]; congr 1; rw [<- Int.mul_assoc,<- Int.mul_assoc,Int.mul_comm c]
  rw [e2,cX,Int.mul_comm 2,Int.mul_assoc] at ht
  have e3:c*d=2*t:=Int.eq_of_mul_eq_mul_left (by have:=p2 n; omega) ht
  by_cases hc:c % 2=0
  ·obtain ⟨c',rfl⟩:∃ c',c=2*c':=⟨c/2,by omega⟩
   exact ⟨i+1,j,by omega,⟨c',by rw [cX,<- Int.mul_assoc,Int.mul_comm (2^i) 2]⟩,⟨d,rfl⟩⟩
  ·have hd:d % 2=0:=by
    have h1:c % 2=1:=by omega
    have h2:(c*d) % 2=0:=by omega
    rw [Int.mul_emod,h1,Int.one_mul] at h2
    omega
   obtain ⟨d',rfl⟩:∃ d',d=2*d':=⟨d/2,by omega⟩
   exact ⟨i,j+1,by omega,⟨c,rfl⟩,⟨d',by rw [cX,<- Int.mul_assoc,Int.mul_comm (2^j) 2]⟩⟩
theorem lV {x y i:Nat} {T p r:Int} (h:2^i*T=p*r):(2:Int)^(x+y+i)*T=(2^x*p)*(2^y*r):=by
 rw [Int.pow_add,Int.mul_assoc,h,Int.pow_add,Int.mul_assoc,Int.mul_assoc]
 congr 1
 rw [<- Int.mul_assoc,<- Int.mul_assoc,Int.mul_comm (2^y) p]
theorem BG {n:Nat} {a b P Q R S H T t1 t2 t3 l Tpr Tqr Tps Tqs xpr xqr xps xqs:Int} (ha:Ar a P Q) (hb:Ar b R S) (eT:2^n*T=a*b) (e1:2^n*Tpr=P*R) (e2:2^n*Tqr=Q*R) (e3:2^n*Tps=P*S) (e4:2^n*Tqs=Q*S)
  (nH:Nr T H) (n1:Nr Tpr xpr) (m1:Nr (H-xpr) t1) (n2:Nr Tqr xqr) (m2:Nr (t1-xqr) t2) (n3:Nr Tps xps) (m3:Nr (t2-xps) t3) (n4:Nr Tqs xqs) (m4:Nr (xqs-t3) l):l=T-H:=by
 have hn:=p2 n
 by_cases h0:a=0∨b=0
 ·have z0:T=0∧Tpr=0∧Tqr=0∧Tps=0∧Tqs=0:=by
   have s1:=ha.sum
   have s2:=hb.sum
   have cancel:∀ {t:Int},2^n*t=0->t=0:=fun {t} h=>by
    rcases Int.mul_eq_zero.1 h with g | g
    ·omega
    ·exact g
   rcases h0 with c | c
   ·have c1:=ha.zero c
    have c2:Q=0:=by omega
    subst c1 c2 c
    simp only [Int.zero_mul] at eT e1 e2 e3 e4
    exact ⟨cancel eT,cancel e1,cancel e2,cancel e3,cancel e4⟩
   ·have c1:=hb.zero c
    have c2:S=0:=by omega
    subst c1 c2 c
    simp only [Int.mul_zero] at eT e1 e2 e3 e4
    exact ⟨cancel eT,cancel e1,cancel e2,cancel e3,cancel e4⟩
  obtain ⟨rfl,rfl,rfl,rfl,rfl⟩:=z0
  have g1:=aY co nH
  have g2:=aY co n1
  have g3:=aY co n2
  have g4:=aY co n3
  have g5:=aY co n4
  subst g1 g2 g3 g4 g5
  have g6:=aY co m1
  subst g6
  have g7:=aY co m2
  subst g7
  have g8:=aY co m3
  subst g8
  exact aY co m4
 ·obtain ⟨x,i,sa,a0,a1⟩:=ha.spl (fun c=>h0 (.inl c))
  obtain ⟨y,j,sb,b0,b1⟩:=hb.spl (fun c=>h0 (.inr c))
  have eQ:Q=a-P:=by have:=ha.sum; omega
  have eS:S=b-R:=by have:=hb.sum; omega
  subst eQ eS
  have k0:=dO nH (x+y+n)
  have k1:=dO n1 (x+y+n)
  have k2:=dO m1 (x+y+n)
  have k3:=dO n2 (x+y+n)
  have k4:=dO m2 (x+y+n)
  have k5:=dO n3 (x+y+n)
  have k6:=dO m3 (x+y+n)
  have k7:=dO n4 (x+y+n)
  have k8:=dO m4 (x+y+n)
  rw [lV eT] at k0
  rw [lV e1] at k1
  rw [lV e2] at k3
  rw [lV e3] at k5
  rw [lV e4] at k7
  rw [Int.mul_sub] at k2 k4 k6 k8
  rw [Int.mul_sub (2^x) a P] at k3 k7
  rw [Int.mul_sub (2^y) b R] at k5 k7
  have e:=KN sa sb a0 a1 b0 b1 k0 k1 k2 k3 k4 k5 k6 k7 k8
  rw [<- lV eT,<- Int.mul_sub] at e
  exact Int.eq_of_mul_eq_mul_left (by have:=p2 (x+y+n); omega) e
theorem iW {n i j:Nat} {a b:Int} (h:i+j=n) (ha:(2^i:Int) ∣ a) (hb:(2^j:Int) ∣ b):∃ T,2^n*T=a*b:=by
 obtain ⟨c,rfl⟩:=ha
 obtain ⟨d,rfl⟩:=hb
 refine ⟨c*d,?_⟩
 rw [<- h,Int.pow_add,Int.mul_assoc,Int.mul_assoc]; congr 1; rw [<- Int.mul_assoc,<- Int.mul_assoc,Int.mul_comm c]
theorem sH {p q:Int} (hp:aj p) (hq:aj q) (h:ak (bm p q)=true):(ak (fI p)=true∧ak (fI q)=true)∧ak (aq p q)=true∧(ak (aq (gN p) (gN q))=true∧ak (Ao p q)=true)∧(ak (aq (fI p) (gN q))=true∧ak (Ap p q)=true)∧(ak (aq (gN p) (fI q))=true∧ak (Aq p q)=true)∧ak (aq (fI p) (fI q))=true∧(aj (gN p)∧aj (fI p)∧aj (gN q)∧aj (fI q)∧aj (Ao p q)∧aj (Ap p q)∧aj (Aq p q)):=by
 have rsp:∀ {p:Int},aj p->aj (gN p)∧aj (fI p):=fun {p} hp=>by
  have rc:aj (cC p):=aU lU hp
  have rd:=aH rc (aZ hp)
  have rH:aj (gN p):=aH rc (aZ rd)
  exact ⟨rH,aH hp (aZ rH)⟩
 obtain ⟨rP,rQ⟩:=rsp hp
 obtain ⟨rR,rS⟩:=rsp hq
 have rT1:aj (Ao p q):=aH (aU hp hq) (aZ (aU rP rR))
 have rT2:aj (Ap p q):=aH rT1 (aZ (aU rQ rR))
 have rT3:aj (Aq p q):=aH rT2 (aZ (aU rP rS))
 obtain ⟨pqs,p3⟩:=dt (aU rQ rS) rT3 h
 obtain ⟨p2,pps⟩:=dt rT2 (aU rP rS) p3
 obtain ⟨p1,pqr⟩:=dt rT1 (aU rQ rR) p2
 obtain ⟨ph,ppr⟩:=dt (aU hp hq) (aU rP rR) p1
 exact ⟨BE rQ rS pqs,ph,⟨ppr,p1⟩,⟨pqr,p2⟩,⟨pps,p3⟩,pqs,rP,rQ,rR,rS,rT1,rT2,rT3⟩
theorem vM {p q T:Int} (hp:aj p) (hq:aj q) (h:ak (bm p q)=true) (hT:2^1074*T=iV p*iV q):(ak p=true∧ak q=true)∧ak (aq p q)=true∧iV (aq p q)+iV (bm p q)=T:=by
 obtain ⟨⟨pQ,pS⟩,ph,⟨ppr,p1⟩,⟨pqr,p2⟩,⟨pps,p3⟩,pqs,rP,rQ,rR,rS,rT1,rT2,rT3⟩:=sH hp hq h
 obtain ⟨pp,pP,ha⟩:=jR hp pQ
 obtain ⟨pq,pR,hb⟩:=jR hq pS
 have hd:(2^1074:Int) ∣ iV p*iV q:=⟨T,hT.symm⟩
 obtain ⟨i,j,eij,di,dj⟩:=vJ 1074 _ _ hd
 have dP:=ha.dvd i di
 have dR:=hb.dvd j dj
 have dQ:(2^i:Int) ∣ iV (fI p):=by have:=ha.sum; rw [show iV (fI p)=iV p-iV (gN p) by omega]; exact Int.dvd_sub di dP
 have dS:(2^j:Int) ∣ iV (fI q):=by have:=hb.sum; rw [show iV (fI q)=iV q-iV (gN q) by omega]; exact Int.dvd_sub dj dR
 obtain ⟨Tpr,e1⟩:=iW eij dP dR
 obtain ⟨Tqr,e2⟩:=iW eij dQ dR
 obtain ⟨Tps,e3⟩:=iW eij dP dS
 obtain ⟨Tqs,e4⟩:=iW eij dQ dS
 have e:=BG ha hb hT e1 e2 e3 e4 ((dq hp hq pp pq hT).nr ph) ((dq rP rR pP pR e1).nr ppr) ((bP (aU hp hq) (aU rP rR) ph ppr).nr p1) ((dq rQ rR pQ pR e2).nr pqr) ((bP rT1 (aU rQ rR) p1 pqr).nr p2) ((dq rP rS pP pS e3).nr pps) ((bP rT2 (aU rP rS) p2 pps).nr p3) ((dq rQ rS pQ pS e4).nr pqs) ((bP (aU rQ rS) rT3 pqs p3).nr h)
 exact ⟨⟨pp,pq⟩,ph,by unfold bm; omega⟩
end Go.Proofs.YtcjfonaolcokbaaGreatDoor
/-
 Mathematics of whole numbers: a float's whole units,ints as floats,the order of floats in the model.
-/
namespace Go.Proofs.YtcjfonaolcokbaaGreatDoor.M
open Go Ieee
theorem DQ {A q:Int} {u v:Nat} {l k:Int} (h:km A u q l) (g:km A v q k):¬ u<v:=fun c=>by
 have h1:=h.hi
 have h2:=g.lo
 have hq:0<q:=by have:=h.lo; omega
 have h3:((u:Int)+1)*q<=(v:Int)*q:=Int.mul_le_mul_of_nonneg_right (by omega) (by omega)
 rw [Int.add_mul,Int.one_mul] at h3
 omega
theorem km.unique {A q:Int} {u v:Nat} {l k:Int} (h:km A u q l) (g:km A v q k):u=v∧l=k:=by
 have e:u=v:=by
  have h1:=DQ h g
  have h2:=DQ g h
  omega
 subst e
 refine ⟨rfl,?_⟩
 have lo:=h.lo
 have hi:=h.hi
 obtain ⟨T,hT⟩:∃ T,(u:Int)*q=T:=⟨_,rfl⟩
 rw [hT] at lo hi
 have a0:=h.l0
 have a1:=h.l1
 have a2:=h.l2
 have a3:=h.l3
 have b0:=g.l0
 have b1:=g.l1
 have b2:=g.l2
 have b3:=g.l3
 rw [hT] at a0 a1 a2 a3 b0 b1 b2 b3
 by_cases c0:A=T
 ·rw [a0.2 c0,b0.2 c0]
 ·by_cases c1:2*A<2*T+q
  ·rw [a1.2 ⟨by omega,c1⟩,b1.2 ⟨by omega,c1⟩]
  ·by_cases c2:2*A=2*T+q
   ·rw [a2.2 c2,b2.2 c2]
   ·rw [a3.2 (by omega),b3.2 (by omega)]
theorem At {a b q:Int} (hq:0<q):compare (a*q) (b*q)=compare a b:=by
 have h1:a*q<b*q ↔ a<b:=⟨fun h=>Int.lt_of_mul_lt_mul_right h (by omega),fun h=>Int.mul_lt_mul_of_pos_right h hq⟩
 have h2:a*q=b*q ↔ a=b:=⟨fun h=>Int.eq_of_mul_eq_mul_right (by omega) h,fun h=>by rw [h]⟩
 show compareOfLessAndEq (a*q) (b*q)=compareOfLessAndEq a b
 unfold compareOfLessAndEq
 simp only [h1,h2]
theorem KR {a b:Int}:(some (compare a b) == some Ordering.eq)=decide (a=b):=by
 show (some (compareOfLessAndEq a b) == some Ordering.eq)=_
 unfold compareOfLessAndEq
 by_cases h1:a<b
 ·rw [if_pos h1,decide_eq_false (by omega)]; rfl
 ·rw [if_neg h1]
  by_cases h2:a=b
  ·rw [if_pos h2,decide_eq_true (by omega)]; rfl
  ·rw [if_neg h2,decide_eq_false (by omega)]; rfl
end Go.Proofs.YtcjfonaolcokbaaGreatDoor.M
namespace Go.Proofs.YtcjfonaolcokbaaGreatDoor
open Go Go.RowKit Go.Proofs.YtcjfonaolcokbaaGreatDoor.M Ieee
theorem Gl {p q:Int} (hp:aj p) (hq:aj q) (pp:ak p=true) (pq:ak q=true):Ieee.double.order (wd p) (wd q)=some (compare (ar p) (ar q)):=by
 obtain ⟨m,u,r1,v1⟩:=cF hp pp
 obtain ⟨n,v,r2,v2⟩:=cF hq pq
 unfold Ieee.Format.order
 rw [r1,r2]
 show some (compare (signed (decide (p<0)) m (-1074+(u:Int)-min (-1074+(u:Int)) (-1074+(v:Int))).toNat) (signed (decide (q<0)) n (-1074+(v:Int)-min (-1074+(u:Int)) (-1074+(v:Int))).toNat))=_
 have hb:-4194304<=min (-1074+(u:Int)) (-1074+(v:Int)):=by omega
 have s1:=jP (decide (p<0)) m (-1074+(u:Int)-min (-1074+(u:Int)) (-1074+(v:Int))).toNat (i:=-1074+(u:Int)) (base:=min (-1074+(u:Int)) (-1074+(v:Int))) (by omega) hb
 have s2:=jP (decide (q<0)) n (-1074+(v:Int)-min (-1074+(u:Int)) (-1074+(v:Int))).toNat (i:=-1074+(v:Int)) (base:=min (-1074+(u:Int)) (-1074+(v:Int))) (by omega) hb
 rw [v1,v2,<- s1,<- s2,At (bD _)]
end Go.Proofs.YtcjfonaolcokbaaGreatDoor
namespace Go.Proofs.YtcjfonaolcokbaaGreatDoor
open Go Go.RowKit Go.Proofs.YtcjfonaolcokbaaGreatDoor.M Ieee
theorem FW.rng {p:Int} {x:Nat} (h:FW p x):M.aj p:=by
 rcases h with ⟨_,h,_⟩ | ⟨rfl,_⟩
 ·exact h
 ·exact nK
theorem Gm {p:Int} (hp:M.aj p) (h4:¬ aG p=4):decide (M.neg p<0)=!decide (p<0)∧rg (M.neg p)=rg p∧¬ aG (M.neg p)=4:=by
 have h0:0<=rg p∧rg p<9223372036854775808:=by unfold rg; unfold M.aj at hp; split <;> omega
 have e:rg (M.neg p)=rg p∧decide (M.neg p<0)=!decide (p<0):=by
  unfold M.neg rg
  rw [if_neg h4]
  unfold M.aj at hp
  by_cases c:p<0
  ·rw [if_pos c,decide_eq_true c,if_neg (by omega)]
   exact ⟨by rw [if_pos c],decide_eq_false (by omega)⟩
  ·rw [if_neg c,decide_eq_false c,if_pos (by omega)]
   exact ⟨by rw [if_neg c]; omega,decide_eq_true (by omega)⟩
 refine ⟨e.2,e.1,fun c=>?_⟩
 have:=(dZ (aZ hp)).1.1 c
 rw [e.1] at this
 exact h4 ((dZ hp).1.2 this)
theorem Gn {p:Int} (hp:M.aj p):ap p (M.neg p)=if ak p then 0 else 9221120237041090561:=by
 by_cases c4:aG p=4
 ·have:ak p=false:=by
   cases h:ak p
   ·rfl
   ·exact absurd c4 (dT hp h).1
  rw [this]
  unfold ap
  rw [if_pos (.inl c4)]
  rfl
 ·obtain ⟨s1,s2,s3⟩:=Gm hp c4
  cases h:ak p
  ·have hi:rg p=9218868437227405312:=by
    by_cases c:rg p=9218868437227405312
    ·exact c
    ·rw [kA hp c4 c] at h; cases h
   unfold ap
   rw [if_neg (fun c=>c.elim c4 s3),if_pos hi,if_pos ⟨by rw [s2]; exact hi,by rw [s1]; cases decide (p<0) <;> decide⟩]
   rfl
  ·obtain ⟨n1,n2,n3⟩:=bS hp h
   unfold ap
   rw [if_neg (fun c=>c.elim c4 s3),if_neg (dT hp h).2,if_neg (by rw [s2]; exact (dT hp h).2),bF hp h,bF n1 n2,n3,if_pos (by rw [<- Int.add_mul,Int.add_right_neg,Int.zero_mul]),s1]
   cases decide (p<0) <;> rfl
theorem BH:Ieee.double.order 0 0=some .eq:=by decide +kernel
theorem BI {p:Int} {z:Nat} (hp:M.aj p) (hz:FW (ap p (M.neg p)) z):(Ieee.double.order z 0 == some Ordering.eq)=ak p:=by
 rw [Gn hp] at hz
 cases h:ak p
 ·rw [h] at hz
  obtain ⟨s,t,e⟩:=hz.read_nan iT
  unfold Ieee.Format.order
  rw [e]
  rfl
 ·rw [h] at hz
  obtain ⟨_,e,_⟩:=hz.of (by decide)
  have:z=0:=by rw [e]; decide
  rw [this,BH]
  rfl
theorem qg {p q:Int} {x y:Nat} (hx:FW p x) (hy:FW q y) (w:World) :
  Calls Tryz.prog 94 #[.float .f64 x,.float .f64 y] w fun e w'=>e=.returned (.tuple #[.int .i64 p,.int .i64 q,.bool (ak q)])∧Below w.heap.size w w':=by
 have C1:=fun W=>je hx W
 have C2:=fun W=>je hy W
 obtain ⟨z1,w1,e1,f1,d1⟩:=cA (P:=Tryz.prog) 47 hy hy w
 have B1:Hid (Below w.heap.size w w1):=cI d1
 have HO:(Ieee.double.order z1 0 == some Ordering.eq)=ak q:=BI hy.rng f1
 clear d1 f1 hx hy
 generalize ak q=R at HO ⊢
 go_enter Tryz.func94,Tryz.ntmps94
 go_wp2_with fail
 refine (C1 _).mono ?_
 rintro _ _ ⟨rfl,rfl⟩
 go_wp2_with fail
 refine (C2 _).mono ?_
 rintro _ _ ⟨rfl,rfl⟩
 have HO2:(FloatKind.f64.format.order z1 0 == some Ordering.eq)=R:=HO
 go_wp2
 refine bodyPost_ret (v:=.tuple #[.int .i64 p,.int .i64 q,.bool R]) (by simp [results,Tryz.results94,go_sem,HO2]) rfl ⟨rfl,B1.out⟩
theorem tD {a b:Int} (ha:M.aj a) (hb:M.aj b) (w:World) :
  Calls Tryz.prog 120 #[.int .i64 a,.int .i64 b] w fun e w'=>e=.returned (.tuple #[.int .i64 (ap (aR a) (aR b)),.int .i64 (sL (aR a) (aR b)),.bool (ak (sL (aR a) (aR b)))])∧Below w.heap.size w w':=by
 have C1:=fun W=>aW a W
 have C2:=fun W=>aW b W
 have FA:Hid (FW (aR a) (wd a)):=jQ ha
 have FB:Hid (FW (aR b) (wd b)):=jQ hb
 generalize aR a=p at *
 generalize aR b=q at *
 generalize wd a=x at *
 generalize wd b=y at *
 go_enter Tryz.func120,Tryz.ntmps120
 go_wp2_with fail
 refine (C1 _).mono ?_
 rintro _ _ ⟨rfl,rfl⟩
 go_wp2_with fail
 refine (C2 _).mono ?_
 rintro _ _ ⟨rfl,rfl⟩
 go_wp2_with fail
 refine (Gi FA.out FB.out _).mono ?_
 rintro _ w1 ⟨z,u,rfl,g1,g2,b1⟩
 have G1:Hid (FW (ap p q) z):=g1
 have G2:Hid (FW (sL p q) u):=g2
 clear g1 g2
 go_wp2_with fail
 refine (qg G1.out G2.out _).mono ?_
 rintro _ w2 ⟨rfl,b2⟩
 go_wp2
 refine bodyPost_ret (v:=.tuple #[.int .i64 (ap p q),.int .i64 (sL p q),.bool (ak (sL p q))]) (by simp [results,Tryz.results120,go_sem]) rfl ⟨rfl,aa b1 b2⟩
theorem zF {a b:Int} (ha:M.aj a) (hb:M.aj b) (w:World) (L:ks w) :
  Calls Tryz.prog 93 #[.int .i64 a,.int .i64 b] w fun e w'=>e=.returned (.tuple #[.int .i64 (ap (aR a) (aR (M.neg b))),.int .i64 (sL (aR a) (aR (M.neg b))),.bool (ak (sL (aR a) (aR (M.neg b))))])∧Below w.heap.size w w':=by
 have C1:=Ab b w L hb
 have C2:=fun W=>tD ha (aZ hb) W
 generalize M.neg b=c at *
 generalize aR a=p at *
 generalize aR c=q at *
 go_enter Tryz.func93,Tryz.ntmps93
 go_wp2_with fail
 refine C1.mono ?_
 rintro _ w1 ⟨rfl,g1⟩
 have b1:=g1.be
 clear g1
 go_wp2_with fail
 refine (C2 _).mono ?_
 rintro _ w2 ⟨rfl,b2⟩
 go_wp2
 refine bodyPost_ret (v:=.tuple #[.int .i64 (ap p q),.int .i64 (sL p q),.bool (ak (sL p q))]) (by simp [results,Tryz.results93,go_sem]) rfl ⟨rfl,aa b1 b2⟩
end Go.Proofs.YtcjfonaolcokbaaGreatDoor
/-
 Package eft: math.Abs,FastTwoSum,reachable,TwoProd,by their contracts.
-/
namespace Go.Proofs.YtcjfonaolcokbaaGreatDoor
open Go Go.RowKit Go.Proofs.YtcjfonaolcokbaaGreatDoor.M Ieee
theorem xN (x y:Int):bits .andNot .u64 x y=IntKind.u64.wrap (((x % 18446744073709551616).toNat &&& (18446744073709551615-(y % 18446744073709551616).toNat):Nat):Int):=by
 show IntKind.u64.wrap (((BitVec.ofInt 64 x &&& ~~~ BitVec.ofInt 64 y).toNat:Nat):Int)=_
 rw [BitVec.toNat_and,BitVec.toNat_not,cK,cK]
theorem Gp {p:Int} (hp:M.aj p):bits .andNot .u64 ((wd p:Nat):Int) 9223372036854775808=((wd (rg p):Nat):Int):=by
 rw [xN,show (18446744073709551615-((9223372036854775808:Int) % 18446744073709551616).toNat)=2^63-1 from by decide,IntKind.wrap_u64,Nat.and_two_pow_sub_one_eq_mod]
 unfold wd rg M.aj at *
 have e:(2:Nat)^63=9223372036854775808:=by decide
 rw [e]
 split <;> omega
theorem xO {p:Int} (hp:M.aj p) (w:World) :
  Calls Tryz.prog 21 #[.float .f64 (wd p)] w fun e w'=>e=.returned (.float .f64 (wd (rg p)))∧w'=w:=by
 have h1:=fm
 have h2:=ig
 have h3:=Gp hp
 generalize wd (rg p)=z at *
 generalize wd p=x at *
 go_enter Tryz.func21,Tryz.ntmps21
 go_wp2
 go_ret
 exact ⟨by simp,rfl⟩
theorem xP {p:Int} (hp:M.aj p) (h:ak p=true):M.aj (rg p)∧ak (rg p)=true∧iV (rg p)=((iV p).natAbs:Int):=by
 have h1:=(bw hp).1 h
 have h0:0<=rg p:=by unfold rg; unfold M.aj at hp; split <;> omega
 have e:rg p=aC false (rg p):=rfl
 obtain ⟨a,b,c⟩:=cW (ng:=false) h0 (by omega)
 rw [<- e] at a
 refine ⟨a,?_,?_⟩
 ·rw [e,iU h0 (by omega)]; exact decide_eq_true h1
 ·rw [ix]
  have:=qM (ng:=false) h0 (show rg p<=9218868437227405312 by omega)
  rw [<- e] at this
  rw [this]
  rfl
theorem DR {p q:Int} (hp:M.aj p) (hq:M.aj q) (pp:ak p=true) (pq:ak q=true):Ieee.double.order (wd p) (wd q)=some (compare (iV p) (iV q)):=by
 rw [Gl hp hq pp pq,bF hp pp,bF hq pq,At (bD _)]
theorem KS {a b:Int}:(some (compare a b) == some Ordering.lt)=decide (a<b):=by
 show (some (compareOfLessAndEq a b) == some Ordering.lt)=_
 unfold compareOfLessAndEq
 by_cases h1:a<b
 ·rw [if_pos h1,decide_eq_true h1]; rfl
 ·rw [if_neg h1,decide_eq_false h1]
  split <;> rfl
theorem DT {p q:Int} (hp:M.aj p) (hq:M.aj q) (pp:ak p=true) (pq:ak q=true):(Ieee.double.order (wd (rg p)) (wd (rg q)) == some Ordering.lt)=decide ((iV p).natAbs<(iV q).natAbs):=by
 obtain ⟨a1,a2,a3⟩:=xP hp pp
 obtain ⟨b1,b2,b3⟩:=xP hq pq
 rw [DR a1 b1 a2 b2,KS,a3,b3]
 congr 1
 apply propext
 omega
theorem xQ {a:Int} (h:ak (aR a)=true):aR a=a:=by
 unfold aR at *
 by_cases c:aG a=4
 ·rw [if_pos c,mn] at h; cases h
 ·rw [if_neg c]
theorem FW.fin {p:Int} {x:Nat} (h:FW p x) (g:ak p=true):x=wd p:=by
 rcases h with ⟨_,_,h⟩ | ⟨rfl,_⟩
 ·exact h
 ·rw [mn] at g; cases g
theorem uK {a b:Int} (ha:M.aj a) (hb:M.aj b) (w:World) :
  Calls Tryz.prog 133 #[.int .i64 a,.int .i64 b] w fun e w'=>e=.returned (.tuple #[.int .i64 (ap (aR a) (aR b)),.int .i64 (fL (aR a) (aR b)),.bool (fX (aR a) (aR b))])∧Below w.heap.size w w':=by
 have C1:=fun W=>aW a W
 have C2:=fun W=>aW b W
 have FA:Hid (FW (aR a) (wd a)):=jQ ha
 have FB:Hid (FW (aR b) (wd b)):=jQ hb
 generalize aR a=p at *
 generalize aR b=q at *
 generalize wd a=x at *
 generalize wd b=y at *
 obtain ⟨X,hX0⟩:∃ X,fX p q=X:=⟨_,rfl⟩
 have HX:Hid (fX p q=X):=hX0
 rw [hX0]
 clear hX0
 go_enter Tryz.func133,Tryz.ntmps133
 go_wp2_with fail
 refine (C1 _).mono ?_
 rintro _ _ ⟨rfl,rfl⟩
 go_wp2_with fail
 refine (C2 _).mono ?_
 rintro _ _ ⟨rfl,rfl⟩
 go_wp2_with fail
 refine (vG FA.out FB.out _).mono ?_
 rintro _ w1 ⟨z,u,rfl,g1,g2,b1⟩
 have G1:Hid (FW (ap p q) z):=g1
 have G2:Hid (FW (fL p q) u):=g2
 clear g1 g2 C1 C2
 go_wp2_with fail
 refine (qg G1.out G2.out _).mono ?_
 rintro _ w2 ⟨rfl,b2⟩
 have hb2:=aa b1 b2
 have hp:=FA.out.rng
 have hq:=FB.out.rng
 cases hl:ak (fL p q)
 ·have hx:X=false:=by rw [<- HX.out]; unfold fX; rw [hl]; rfl
  subst hx
  clear HX
  clear G1 G2 FA FB hp hq
  go_wp2
  all_goals refine bodyPost_ret (v:=.tuple #[.int .i64 (ap p q),.int .i64 (fL p q),.bool false]) (by simp [results,Tryz.results133,go_sem]) rfl ⟨rfl,hb2⟩
 ·obtain ⟨⟨pp,pq⟩,ph⟩:=uJ hp hq hl
  have ex:=FA.out.fin pp
  have ey:=FB.out.fin pq
  have eu:=G2.out.fin hl
  subst ex ey eu
  have A1:=fun W=>xO hp W
  have A2:=fun W=>xO hq W
  have HO:(FloatKind.f64.format.order (wd (rg p)) (wd (rg q)) == some Ordering.lt)=decide ((iV p).natAbs<(iV q).natAbs):=DT hp hq pp pq
  by_cases c:(iV p).natAbs<(iV q).natAbs
  ·have hc:=vH hp hq pp pq
   obtain ⟨k1,k2⟩:=nL hq hp pq pp (by rw [<- hc]; exact ph) (by omega)
   have hfl:M.aj (fL p q):=by unfold fL; exact aH hq (aZ (aH (aH hp hq) (aZ hp)))
   have hfl2:M.aj (fL q p):=by unfold fL; exact aH hp (aZ (aH (aH hq hp) (aZ hq)))
   have HE:(FloatKind.f64.format.order (wd (fL p q)) (wd (fL q p)) == some Ordering.eq)=decide (iV (fL p q)=iV (fL q p)):=by
    show (Ieee.double.order (wd (fL p q)) (wd (fL q p)) == some Ordering.eq)=_
    rw [DR hfl hfl2 hl k1,KR]
   have hx:X=decide (iV (fL p q)=iV (fL q p)):=by rw [<- HX.out]; unfold fX; rw [hl,decide_eq_true c]; rfl
   rw [<- hx] at HE
   clear HX hx
   rw [decide_eq_true c] at HO
   have K1:Hid (ak (fL q p)=true):=k1
   clear hc k2 G1 hfl hfl2
   generalize wd (rg p)=xa at *
   generalize wd (rg q)=ya at *
   go_wp2_with fail
   refine (A1 _).mono ?_
   rintro _ _ ⟨rfl,rfl⟩
   go_wp2_with fail
   refine (A2 _).mono ?_
   rintro _ _ ⟨rfl,rfl⟩
   go_wp2_with fail
   refine (vG FB.out FA.out _).mono ?_
   rintro _ w3 ⟨z3,u3,rfl,g3,g4,b3⟩
   have e4:=g4.fin K1.out
   subst e4
   have hb3:=aa hb2 b3
   clear g3 g4
   go_wp2
   all_goals refine bodyPost_ret (v:=.tuple #[.int .i64 (ap p q),.int .i64 (fL p q),.bool X]) (by simp [results,Tryz.results133,go_sem,HE]) rfl ⟨rfl,hb3⟩
  ·have hx:X=true:=by rw [<- HX.out]; unfold fX; rw [hl,decide_eq_false c]; rfl
   subst hx
   clear HX
   rw [decide_eq_false c] at HO
   clear G1
   generalize wd (rg p)=xa at *
   generalize wd (rg q)=ya at *
   go_wp2_with fail
   refine (A1 _).mono ?_
   rintro _ _ ⟨rfl,rfl⟩
   go_wp2_with fail
   refine (A2 _).mono ?_
   rintro _ _ ⟨rfl,rfl⟩
   go_wp2
   all_goals refine bodyPost_ret (v:=.tuple #[.int .i64 (ap p q),.int .i64 (fL p q),.bool true]) (by simp [results,Tryz.results133,go_sem]) rfl ⟨rfl,hb2⟩
end Go.Proofs.YtcjfonaolcokbaaGreatDoor
namespace Go.Proofs.YtcjfonaolcokbaaGreatDoor
open Go Go.RowKit Go.Proofs.YtcjfonaolcokbaaGreatDoor.M Ieee
theorem vN (mag:Int) (h0:0<mag) (h:mag<9223372036854775808) (w:World) (hT:iG w) :
  Calls Tryz.prog 108 #[.int .u64 mag] w fun e w'=>e=.returned (.int .i64 (jz mag))∧w'=w:=by
 go_enter Tryz.func108,Tryz.ntmps108
 go_wp2_with fail
 refine (lj mag h0 h _ hT).mono ?_
 rintro _ _ ⟨rfl,rfl⟩
 go_wp2
 go_ret
 exact ⟨rfl,rfl⟩
theorem vO (x:Int) (h0:0<x) (h1:x<9223372036854775808) (w:World) (hT:iG w) :
  Calls Tryz.prog 122 #[.int .i64 x] w fun e w'=>e=.returned (.int .i64 (jz x))∧w'=w:=by
 have u1:IntKind.u64.wrap x=x:=by rw [IntKind.wrap_u64]; omega
 have C:=fun W (T:iG W)=>vN x h0 h1 W T
 go_enter Tryz.func122,Tryz.ntmps122
 go_wp2_with fail
 refine (C _ hT).mono ?_
 rintro _ _ ⟨rfl,rfl⟩
 go_wp2
 go_ret
 exact ⟨rfl,rfl⟩
def oO (a b:Int):Bool:=decide (aK a=0) || decide (aK b=0) || decide (-1074<=bi a+jz (aK a)+bi b+jz (aK b))
end Go.Proofs.YtcjfonaolcokbaaGreatDoor
namespace Go.Proofs.YtcjfonaolcokbaaGreatDoor
open Go Go.RowKit Go.Proofs.YtcjfonaolcokbaaGreatDoor.M Ieee
theorem ws {a b:Int} (pa:ak a=true) (pb:ak b=true) (w:World) (H:aD w) :
  Calls Tryz.prog 96 #[.int .i64 a,.int .i64 b] w fun e w'=>e=.returned (.bool (oO a b))∧Below w.heap.size w w':=by
 have C1:=kt a w H.lay
 have C2:Hid (∀ W,Below w.heap.size w W->_):=fun W hb=>kt b W (H.keeps hb).lay
 have HT:Hid (∀ W,Below w.heap.size w W->iG W):=fun W hb=>(H.keeps hb).env.tab
 obtain ⟨a0,a1,a2,a3⟩:=eE pa
 obtain ⟨b0,b1,b2,b3⟩:=eE pb
 have Z1:Hid (aK a≠0->∀ W,Below w.heap.size w W->Calls Tryz.prog 122 #[.int .i64 (aK a)] W fun e w'=>e=.returned (.int .i64 (jz (aK a)))∧w'=W):=fun h W hb=>vO _ (by omega) (by omega) W (HT.out W hb)
 have Z2:Hid (aK b≠0->∀ W,Below w.heap.size w W->Calls Tryz.prog 122 #[.int .i64 (aK b)] W fun e w'=>e=.returned (.int .i64 (jz (aK b)))∧w'=W):=fun h W hb=>vO _ (by omega) (by omega) W (HT.out W hb)
 have z1:aK a≠0->jz (aK a)<63:=fun h=>by obtain ⟨_,_,g,_⟩:=fV (mag:=aK a) (by omega) (by omega); exact g
 have z2:aK b≠0->jz (aK b)<63:=fun h=>by obtain ⟨_,_,g,_⟩:=fV (mag:=aK b) (by omega) (by omega); exact g
 unfold oO
 clear HT H
 generalize jz (aK a)=j at *
 generalize jz (aK b)=k at *
 generalize aK a=m at *
 generalize aK b=n at *
 generalize bi a=x at *
 generalize bi b=y at *
 generalize hH a=s at *
 generalize hH b=t at *
 go_enter Tryz.func96,Tryz.ntmps96
 go_wp2_with fail
 refine C1.mono ?_
 rintro _ w1 ⟨rfl,g1⟩
 go_wp2_with fail
 refine (C2.out _ g1).mono ?_
 rintro _ w2 ⟨rfl,g2⟩
 have hb2:=aa g1 g2
 clear C1 C2 g1 g2
 by_cases hm:m=0
 ·subst hm
  go_wp2
  all_goals go_ret
  all_goals exact ⟨by simp,hb2⟩
 ·by_cases hn:n=0
  ·subst hn
   go_wp2
   all_goals go_ret
   all_goals exact ⟨by simp,hb2⟩
  ·have Z1:=Z1.out hm w2 hb2
   have Z2:=Z2.out hn w2 hb2
   have j1:=z1 hm
   have k1:=z2 hn
   have u1:IntKind.i64.wrap (x+(j:Int))=x+j:=by rw [bH]; omega
   have u2:IntKind.i64.wrap (x+(j:Int)+y)=x+j+y:=by rw [bH]; omega
   have u3:IntKind.i64.wrap (x+(j:Int)+y+(k:Int))=x+j+y+k:=by rw [bH]; omega
   by_cases hr:-1074<=x+(j:Int)+y+(k:Int)
   ·go_wp2_with (first | (go_at_call 122; first | (refine Z1.mono ?_; rintro _ _ ⟨rfl,rfl⟩) | (refine Z2.mono ?_; rintro _ _ ⟨rfl,rfl⟩)))
    all_goals go_ret
    all_goals exact ⟨by simp [hr],by first | exact hb2 | exact hb2.drew⟩
   ·go_wp2_with (first | (go_at_call 122; first | (refine Z1.mono ?_; rintro _ _ ⟨rfl,rfl⟩) | (refine Z2.mono ?_; rintro _ _ ⟨rfl,rfl⟩)))
    all_goals go_ret
    all_goals exact ⟨by simp [hm,hn,hr],by first | exact hb2 | exact hb2.drew⟩
def pX (p q:Int):Bool:=ak (bm p q) && oO p q
theorem rB {a b:Int} (ha:M.aj a) (hb:M.aj b) (w:World) (H:aD w) :
  Calls Tryz.prog 66 #[.int .i64 a,.int .i64 b] w fun e w'=>e=.returned (.tuple #[.int .i64 (aq (aR a) (aR b)),.int .i64 (bm (aR a) (aR b)),.bool (pX (aR a) (aR b))])∧Below w.heap.size w w':=by
 have C1:=fun W=>aW a W
 have C2:=fun W=>aW b W
 have FA:Hid (FW (aR a) (wd a)):=jQ ha
 have FB:Hid (FW (aR b) (wd b)):=jQ hb
 have HH:Hid (aD w):=H
 have TA:Hid (ak (aR a)=true->aR a=a):=xQ
 have TB:Hid (ak (aR b)=true->aR b=b):=xQ
 clear H
 generalize aR a=p at *
 generalize aR b=q at *
 generalize wd a=x at *
 generalize wd b=y at *
 obtain ⟨X,hX0⟩:∃ X,pX p q=X:=⟨_,rfl⟩
 have HX:Hid (pX p q=X):=hX0
 rw [hX0]
 clear hX0
 go_enter Tryz.func66,Tryz.ntmps66
 go_wp2_with fail
 refine (C1 _).mono ?_
 rintro _ _ ⟨rfl,rfl⟩
 go_wp2_with fail
 refine (C2 _).mono ?_
 rintro _ _ ⟨rfl,rfl⟩
 go_wp2_with fail
 refine (DN FA.out FB.out _).mono ?_
 rintro _ w1 ⟨z,u,rfl,g1,g2,b1⟩
 have G1:Hid (FW (aq p q) z):=g1
 have G2:Hid (FW (bm p q) u):=g2
 clear g1 g2 C1 C2
 go_wp2_with fail
 refine (qg G1.out G2.out _).mono ?_
 rintro _ w2 ⟨rfl,b2⟩
 have hb2:=aa b1 b2
 have hp:=FA.out.rng
 have hq:=FB.out.rng
 cases hl:ak (bm p q)
 ·have hx:X=false:=by rw [<- HX.out]; unfold pX; rw [hl]; rfl
  subst hx
  clear G1 G2 FA FB hp hq HX
  go_wp2
  all_goals refine bodyPost_ret (v:=.tuple #[.int .i64 (aq p q),.int .i64 (bm p q),.bool false]) (by simp [results,Tryz.results66,go_sem]) rfl ⟨rfl,hb2⟩
 ·have hx:X=oO p q:=by rw [<- HX.out]; unfold pX; rw [hl]; rfl
  obtain ⟨⟨pQ,pS⟩,_⟩:=sH hp hq hl
  have pp:=(jR hp pQ).1
  have pq:=(jR hq pS).1
  have ea:=TA.out pp
  have eb:=TB.out pq
  have CR:=ws (a:=p) (b:=q) pp pq w2 (HH.out.keeps hb2)
  rw [<- hx] at CR
  subst ea eb
  clear G1 G2 FA FB hp hq HX pQ pS pp pq hx TA TB
  go_wp2_with fail
  refine CR.mono ?_
  rintro _ w3 ⟨rfl,b3⟩
  go_wp2
  all_goals refine bodyPost_ret (v:=.tuple #[.int .i64 (aq p q),.int .i64 (bm p q),.bool X]) (by simp [results,Tryz.results66,go_sem]) rfl ⟨rfl,aa hb2 b3⟩
theorem Ju {s n:Nat} {t:Int} (h:(2^n:Int) ∣ 2^s*(2*t+1)):n<=s:=by
 rcases Nat.lt_or_ge s n with c | c
 ·exfalso
  obtain ⟨d,rfl⟩:∃ d,n=s+1+d:=⟨n-s-1,by omega⟩
  obtain ⟨e,he⟩:=h
  rw [Int.pow_add,cX,show (2:Int)*2^s*2^d*e=2^s*(2*(2^d*e)) by ac_rfl] at he
  have:=Int.eq_of_mul_eq_mul_left (by have:=p2 s; omega) he
  generalize (2:Int)^d*e=f at this
  omega
 ·exact c
theorem iz {p:Int} (hp:aj p) (h:ak p=true):((iV p).natAbs:Int)=aK p*2^(bi p+1074).toNat:=by
 have h0:=(eE h).1
 rw [ix,Ko hp h,uH,Int.toNat_of_nonneg h0,Int.mul_comm]
theorem DU {m:Nat} {mag:Int} {j e:Nat} (h:mag=2^j*(2*m+1)):mag*2^e=2^(j+e)*(2*(m:Int)+1):=by
 rw [h,Int.pow_add,Int.mul_assoc,Int.mul_assoc,Int.mul_comm (2*(m:Int)+1)]
theorem Jv (i j:Nat) (a b:Int):2^i*(2*a+1)*(2^j*(2*b+1))=2^(i+j)*(2*(2*a*b+a+b)+1):=by
 have e:(2*a+1)*(2*b+1)=2*(2*a*b+a+b)+1:=by
  rw [Int.add_mul,Int.mul_add,Int.one_mul,Int.mul_one,Int.mul_add,Int.mul_add]
  have:2*a*(2*b)=2*(2*a*b):=by ac_rfl
  omega
 rw [<- e,Int.pow_add]
 generalize 2*a+1=A
 generalize 2*b+1=B
 ac_rfl
theorem DV {a b:Int} (ha:aj a) (hb:aj b) (pa:ak a=true) (pb:ak b=true):oO a b=true ↔ ∃ T,2^1074*T=iV a*iV b:=by
 have fa:=iz ha pa
 have fb:=iz hb pb
 obtain ⟨a0,a1,a2,a3⟩:=eE pa
 obtain ⟨b0,b1,b2,b3⟩:=eE pb
 unfold oO
 by_cases hm:aK a=0
 ·rw [hm] at fa ⊢
  have:iV a=0:=by rw [Int.zero_mul] at fa; omega
  rw [this]
  exact ⟨fun _=>⟨0,by rw [Int.mul_zero,Int.zero_mul]⟩,fun _=>rfl⟩
 by_cases hn:aK b=0
 ·rw [hn] at fb ⊢
  have:iV b=0:=by rw [Int.zero_mul] at fb; omega
  rw [this]
  exact ⟨fun _=>⟨0,by rw [Int.mul_zero,Int.mul_zero]⟩,fun _=>by simp⟩
 obtain ⟨m,m1,m2,_⟩:=fV (mag:=aK a) (by omega) (by omega)
 obtain ⟨n,n1,n2,_⟩:=fV (mag:=aK b) (by omega) (by omega)
 rw [decide_eq_false hm,decide_eq_false hn,Bool.false_or,Bool.false_or,decide_eq_true_iff]
 rw [DU m1] at fa
 rw [DU n1] at fb
 have hd:(∃ T,2^1074*T=iV a*iV b) ↔ (2^1074:Int) ∣ ((iV a).natAbs:Int)*((iV b).natAbs:Int):=by
  rw [<- Int.natCast_mul,<- Int.natAbs_mul,Int.dvd_natAbs]
  exact ⟨fun ⟨T,h⟩=>⟨T,h.symm⟩,fun ⟨T,h⟩=>⟨T,h.symm⟩⟩
 rw [hd,fa,fb,Jv]
 constructor
 ·intro h
  exact Int.dvd_trans (ct (by omega)) ⟨_,rfl⟩
 ·intro h
  have:=Ju h
  omega
end Go.Proofs.YtcjfonaolcokbaaGreatDoor
namespace Go.Proofs.YtcjfonaolcokbaaGreatDoor
open Go Go.RowKit Go.Proofs.YtcjfonaolcokbaaGreatDoor.M
end Go.Proofs.YtcjfonaolcokbaaGreatDoor
namespace Go.Proofs.YtcjfonaolcokbaaGreatDoor
open Go Go.RowKit Go.Proofs.YtcjfonaolcokbaaGreatDoor.M Ieee
theorem Gq {W : World} (h : laidMetH Tryz.prog [("math/bits.deBruijn32tab", Rows.laid_math_bits_deBruijn32tab), ("math/bits.deBruijn64tab", Rows.laid_math_bits_deBruijn64tab), ("plumb/bits.binary64", Rows.laid_plumb_bits_binary64)] W) : aD W := by
 have k:=Jg h
 exact ⟨k.lay,k.tab,⟨⟨k.lay.a0,k.lay.a1,k.lay.a2,trivial,trivial,trivial⟩,k.tab⟩⟩
theorem lW {a:Int} (h:ak a=true) (ha:M.aj a):aR a=a:=by
 unfold aR; rw [if_neg (dT ha h).1]
theorem jt {p q:Int} (hp:M.aj p) (hq:M.aj q):M.aj (sL p q):=by
 have rh:=aH hp hq
 have rv:M.aj (sV p q):=aH rh (aZ hp)
 exact aH (aH hp (aZ (aH rh (aZ rv)))) (aH hq (aZ rv))
theorem xR {p q:Int} (hp:M.aj p) (hq:M.aj q):M.aj (fL p q):=aH hq (aZ (aH (aH hp hq) (aZ hp)))
theorem tE {p:Int} (hp:M.aj p):M.aj (gN p)∧M.aj (fI p):=by
 have rc:M.aj (cC p):=aU lU hp
 have rd:=aH rc (aZ hp)
 have rH:M.aj (gN p):=aH rc (aZ rd)
 exact ⟨rH,aH hp (aZ rH)⟩
theorem dU {p q:Int} (hp:M.aj p) (hq:M.aj q):M.aj (bm p q):=by
 obtain ⟨rP,rQ⟩:=tE hp
 obtain ⟨rR,rS⟩:=tE hq
 have rT1:M.aj (Ao p q):=aH (aU hp hq) (aZ (aU rP rR))
 have rT2:M.aj (Ap p q):=aH rT1 (aZ (aU rQ rR))
 have rT3:M.aj (Aq p q):=aH rT2 (aZ (aU rP rS))
 exact aH (aU rQ rS) (aZ rT3)
end Go.Proofs.YtcjfonaolcokbaaGreatDoor
namespace Go.Proofs.YtcjfonaolcokbaaGreatDoor.M
open Go Ieee
theorem fQ {b:Int} (h:aj b):aj (rg b)∧0<=rg b:=by unfold aj rg at *; split <;> omega
theorem mO {b:Int} (h:aj b):aG (rg b)=aG b:=by
 unfold aj at h; unfold aG rg bN cf
 by_cases h0:b<0
 ·rw [if_pos h0,show (b+9223372036854775808)/4503599627370496 % 2048=b/4503599627370496 % 2048 from by omega,show (b+9223372036854775808) % 4503599627370496=b % 4503599627370496 from by omega]
 ·rw [if_neg h0]
theorem NM {b:Int} (h:aj b):wd b % 9223372036854775808=wd (rg b):=by unfold aj rg wd at *; split <;> omega
theorem lL {b:Int} (h:0<=b):au b=b:=by unfold au; rw [if_neg (by omega)]
theorem xS (b:Int):wd b<18446744073709551616:=by unfold wd; omega
theorem MA {b:Int} (h:aj b):(bits .andNot .u64 (wd b) 9223372036854775808).toNat=wd (rg b):=by
 have e:=NM h
 have l:=xS b
 rw [<- e]
 show (IntKind.u64.wrap (((BitVec.ofInt 64 (wd b:Int) &&& ~~~ BitVec.ofInt 64 9223372036854775808).toNat:Nat):Int)).toNat=_
 rw [BitVec.toNat_and,BitVec.toNat_not,cK,cK,show (2^64-1-((9223372036854775808:Int) % 18446744073709551616).toNat)=2^63-1 from by decide,Nat.and_two_pow_sub_one_eq_mod,IntKind.wrap_u64]
 omega
theorem aS {b:Int} (h:ak b=true):¬ aG b=4:=by
 have:=s7 h
 unfold aG; rw [if_neg this]; split
 ·split <;> omega
 ·omega
theorem fR {a b:Int} (ha:aj a) (hb:aj b) (h1:¬ aG a=4) (h2:¬ aG b=4) (h:au a<au b):FloatKind.f64.format.order (wd a) (wd b)=some .lt:=by rw [nF ha hb h1 h2,gb h]
theorem fU {a b:Int} (ha:aj a) (hb:aj b) (h1:¬ aG a=4) (h2:¬ aG b=4) (h:au b<au a):FloatKind.f64.format.order (wd a) (wd b)=some .gt:=by rw [nF ha hb h1 h2,gc h]
theorem fJ {a b:Int} (ha:aj a) (hb:aj b) (h1:¬ aG a=4) (h2:¬ aG b=4) (h:au a=au b):FloatKind.f64.format.order (wd a) (wd b)=some .eq:=by rw [nF ha hb h1 h2,ke h]
def cm (b:Int):Bool:=decide (rg b=0) || (decide (3931642474694443008<=rg b) && decide (rg b<5282722362905591808))
theorem xU {b:Int} (h:aj b):cm b=(decide (rg b=0) || (decide (873<=bN b) && decide (bN b<1173))):=by
 obtain ⟨h0,h1⟩:=gI h
 have h2:0<=cf b∧cf b<4503599627370496:=by unfold cf; omega
 unfold cm
 congr 1
 congr 1
 ·apply decide_eq_decide.2; omega
 ·apply decide_eq_decide.2; omega
theorem nM {b:Int} (h:aj b):ak b=decide (rg b<=9218868437227405311):=by
 obtain ⟨h0,h1⟩:=gI h
 have h2:0<=cf b∧cf b<4503599627370496:=by unfold cf; omega
 have h3:0<=bN b∧bN b<2048:=by unfold bN; omega
 unfold ak
 by_cases e:bN b=2047
 ·simp [e]; omega
 ·simp [e]; omega
end Go.Proofs.YtcjfonaolcokbaaGreatDoor.M
namespace Go.Proofs.YtcjfonaolcokbaaGreatDoor
open Go Go.RowKit Go.Proofs.YtcjfonaolcokbaaGreatDoor.M
structure Ls where
 n:Nat
 d:Nat->Int
def Ls.add (s:Ls) (b:Int):Ls:=if rg b=0 then s else ⟨s.n+1,b7 s.d s.n b⟩
theorem Ls.add_le (s:Ls) (b:Int):s.n<=(s.add b).n∧(s.add b).n<=s.n+1:=by
 unfold Ls.add
 split
 ·exact ⟨Nat.le_refl _,Nat.le_succ _⟩
 ·exact ⟨Nat.le_succ _,Nat.le_refl _⟩
def Ls.same (s t:Ls):Prop:=s.n=t.n∧∀ i,i<s.n->s.d i=t.d i
theorem Ls.same.add {s t:Ls} (h:s.same t) (b:Int):(s.add b).same (t.add b):=by
 unfold Ls.add
 split
 ·exact h
 ·refine ⟨by show s.n+1=t.n+1; rw [h.1],fun i hi=>?_⟩
  show b7 s.d s.n b i=b7 t.d t.n b i
  by_cases e:i=s.n
  ·subst e; rw [bt,h.1,bt]
  ·rw [aV _ _ e,aV _ _ (by rw [<- h.1]; exact e)]
   exact h.2 i (by have:i<s.n+1:=hi; omega)
def gq (d:Nat->Int) (q:Int):Nat->Int
 | 0=>q
 | k+1=>ap (gq d q k) (d k)
def gl (d:Nat->Int) (q:Int) (k:Nat):Int:=sL (gq d q k) (d k)
def gs (d:Nat->Int) (q:Int):Nat->Ls
 | 0=>⟨0,d⟩
 | k+1=>(gs d q k).add (gl d q k)
def gx (d:Nat->Int) (q:Int):Nat->Bool
 | 0=>true
 | k+1=>gx d q k && ak (gl d q k)
def gO (n:Nat) (d:Nat->Int) (q:Int):Ls:=(gs d q n).add (gq d q n)
theorem tF (d:Nat->Int) (q:Int):∀ k,(gs d q k).n<=k
 | 0=>Nat.le_refl _
 | k+1=>by
  have h1:=tF d q k
  have h2:=((gs d q k).add_le (gl d q k)).2
  show ((gs d q k).add _).n<=k+1
  omega
theorem qN (d:Nat->Int) (q:Int):∀ k i,k<=i->(gs d q k).d i=d i
 | 0,i,_=>rfl
 | k+1,i,h=>by
  have h1:=tF d q k
  show ((gs d q k).add _).d i=d i
  unfold Ls.add
  split
  ·exact qN d q k i (by omega)
  ·show b7 _ _ _ i=d i
   rw [aV _ _ (by omega)]
   exact qN d q k i (by omega)
theorem uL {d:Nat->Int} {q:Int}:∀ {k j},j<=k->gx d q k=true->gx d q j=true
 | 0,j,h,hx=>by
  obtain rfl:j=0:=by omega
  rfl
 | k+1,j,h,hx=>by
  by_cases e:j=k+1
  ·subst e; exact hx
  ·have:(gx d q k && ak (gl d q k))=true:=hx
   rw [Bool.and_eq_true] at this
   exact uL (by omega) this.1
theorem ju {d:Nat->Int} {q:Int} {n:Nat} (hd:∀ i,i<n->aj (d i)∧ak (d i)=true) (hq:aj q) (pq:ak q=true):∀ k,k<=n->gx d q k=true->aj (gq d q k)∧ak (gq d q k)=true
 | 0,_,_=>⟨hq,pq⟩
 | k+1,hk,hx=>by
  have hx':(gx d q k && ak (gl d q k))=true:=hx
  rw [Bool.and_eq_true] at hx'
  obtain ⟨r1,r2⟩:=ju hd hq pq k (by omega) hx'.1
  obtain ⟨d1,d2⟩:=hd k (by omega)
  exact ⟨aH r1 d1,(ij r1 d1 hx'.2).2.1⟩
theorem xV {b:Int} (hb:aj b):(FloatKind.f64.format.order (wd b) 0 == some .eq)=decide (rg b=0):=by
 have h:=oi hb (show aj 0 by unfold aj; omega)
 rw [show wd 0=0 by decide] at h
 rw [h]
 unfold de
 have hk:au 0=0:=by decide
 have c0:¬ aG 0=4:=by decide
 by_cases h4:aG b=4
 ·have:rg b≠0:=fun e=>by
   have:=mO hb
   rw [e] at this
   rw [<- this] at h4
   exact c0 h4
  simp [h4,this]
 ·have e:(au b=au 0) ↔ rg b=0:=by
   rw [hk]
   unfold aj at hb
   unfold au rg
   split <;> omega
  by_cases hz:rg b=0
  ·simp [h4,c0,hz,e.2 hz]
  ·have:¬ au b=au 0:=fun q=>hz (e.1 q)
   simp [h4,c0,hz,this]
theorem cr {b:Int} (hb:aj b) (w:World) :
  Calls Tryz.prog 21 #[.float .f64 (wd b)] w fun e w'=>e=.returned (.float .f64 (wd (rg b)))∧w'=w:=by
 have h1:=ig
 have h2:=fm
 go_enter Tryz.func21,Tryz.ntmps21
 go_wp2
 go_ret
 exact ⟨fE (MA hb),rfl⟩
theorem xW {b:Int} (hb:aj b) (w:World) :
  Calls Tryz.prog 74 #[.float .f64 (wd b)] w fun e w'=>e=.returned (.bool (ak b))∧w'=w:=by
 have n0:=FJ hb
 obtain ⟨r1,r2⟩:=fQ hb
 by_cases h4:aG b=4
 ·have n1:(FloatKind.f64.format.order (wd b) (wd b) != some .eq)=true:=by rw [n0]; simp [h4]
  have hp:ak b=false:=by
   cases h:ak b
   ·rfl
   ·exact absurd h4 (aS h)
  clear n0
  go_enter Tryz.func74,Tryz.ntmps74
  go_wp2
  go_ret
  exact ⟨cd hp.symm,rfl⟩
 ·have n1:(FloatKind.f64.format.order (wd b) (wd b) != some .eq)=false:=by rw [n0]; simp [h4]
  have c1:¬ aG (rg b)=4:=by rw [mO hb]; exact h4
  have c2:¬ aG 9218868437227405311=4:=by decide
  have r3:aj 9218868437227405311:=by unfold aj; omega
  have k1:=lL r2
  have k2:au 9218868437227405311=9218868437227405311:=by decide
  have e2:wd 9218868437227405311=9218868437227405311:=by decide
  have hp:=nM hb
  clear n0
  rcases Int.lt_trichotomy (rg b) 9218868437227405311 with h | h | h
  ·have o:=fR r1 r3 c1 c2 (by rw [k1,k2]; exact h)
   rw [e2] at o
   have hp':ak b=true:=by rw [hp]; simp; omega
   clear hp
   go_enter Tryz.func74,Tryz.ntmps74
   go_wp2_with (go_at_call 21; refine (cr hb _).mono ?_; rintro _ _ ⟨rfl,rfl⟩)
   go_ret
   exact ⟨cd hp'.symm,rfl⟩
  ·have o:=fJ r1 r3 c1 c2 (by rw [k1,k2]; exact h)
   rw [e2] at o
   have hp':ak b=true:=by rw [hp]; simp; omega
   clear hp
   go_enter Tryz.func74,Tryz.ntmps74
   go_wp2_with (go_at_call 21; refine (cr hb _).mono ?_; rintro _ _ ⟨rfl,rfl⟩)
   go_ret
   exact ⟨cd hp'.symm,rfl⟩
  ·have o:=fU r1 r3 c1 c2 (by rw [k1,k2]; exact h)
   rw [e2] at o
   have hp':ak b=false:=by rw [hp]; simp; omega
   clear hp
   go_enter Tryz.func74,Tryz.ntmps74
   go_wp2_with (go_at_call 21; refine (cr hb _).mono ?_; rintro _ _ ⟨rfl,rfl⟩)
   go_ret
   exact ⟨cd hp'.symm,rfl⟩
theorem vP {b:Int} (hb:aj b) (w:World) :
    Calls Tryz.prog 19 #[.int .i64 b] w fun e w'=>e=.returned (.bool (cm b))∧w'=w:=by
  obtain ⟨r1,r2⟩:=fQ hb
  have k1:=lL r2
  have z1:wd 0=0:=by decide
  have z2:wd 3931642474694443008=3931642474694443008:=by decide
  have z3:wd 5282722362905591808=5282722362905591808:=by decide
  have s1:=oi r1 (show aj 0 by unfold aj; omega)
  have s2:=Bc r1 (show aj 5282722362905591808 by unfold aj; omega)
  have o0:=@fu
  by_cases h4:aG (rg b)=4
  · have o1:=fu r1 (show aj 0 by unfold aj; omega) (.inl h4)
    have o2:=fu (show aj 3931642474694443008 by unfold aj; omega) r1 (.inr h4)
    rw [z1] at o1
    rw [z2] at o2
    have ht:cm b=false:=by
      have h5:aG b=4:=by rw [<- mO hb]; exact h4
      have h6:bN b=2047:=by
        unfold aG at h5; split at h5
        · assumption
        · split at h5
          · split at h5 <;> omega
          · omega
      have:=gI hb
      have h7:0<=cf b∧cf b<4503599627370496:=by unfold cf; omega
      rw [xU hb,h6]
      simp
      omega
    clear s1 s2 o0
    go_enter Tryz.func19,Tryz.ntmps19
    go_wp2_with (first
      | (go_at_call 20; refine (aW _ _).mono ?_; rintro _ _ ⟨rfl,rfl⟩)
      | (go_at_call 21; refine (cr hb _).mono ?_; rintro _ _ ⟨rfl,rfl⟩))
    go_ret
    exact ⟨cd ht.symm,rfl⟩
  · have c0:¬ aG 0=4:=by decide
    have c2:¬ aG 3931642474694443008=4:=by decide
    have c3:¬ aG 5282722362905591808=4:=by decide
    have y0:aj 0:=by unfold aj; omega
    have y2:aj 3931642474694443008:=by unfold aj; omega
    have y3:aj 5282722362905591808:=by unfold aj; omega
    have m0:au 0=0:=by decide
    have m2:au 3931642474694443008=3931642474694443008:=by decide
    have m3:au 5282722362905591808=5282722362905591808:=by decide
    clear s1 s2 o0
    by_cases e0:rg b=0
    · have o1:=fJ r1 y0 h4 c0 (by rw [k1,m0]; exact e0)
      rw [z1] at o1
      have ht:cm b=true:=by unfold cm; simp [e0]
      go_enter Tryz.func19,Tryz.ntmps19
      go_wp2_with (first
        | (go_at_call 20; refine (aW _ _).mono ?_; rintro _ _ ⟨rfl,rfl⟩)
        | (go_at_call 21; refine (cr hb _).mono ?_; rintro _ _ ⟨rfl,rfl⟩))
      go_ret
      exact ⟨cd ht.symm,rfl⟩
    have o1:=fU r1 y0 h4 c0 (by rw [k1,m0]; omega)
    rw [z1] at o1
    by_cases e1:rg b<3931642474694443008
    · have o2:=fU y2 r1 c2 h4 (by rw [k1,m2]; exact e1)
      rw [z2] at o2
      have ht:cm b=false:=by unfold cm; simp [e0]; omega
      go_enter Tryz.func19,Tryz.ntmps19
      go_wp2_with (first
        | (go_at_call 20; refine (aW _ _).mono ?_; rintro _ _ ⟨rfl,rfl⟩)
        | (go_at_call 21; refine (cr hb _).mono ?_; rintro _ _ ⟨rfl,rfl⟩))
      go_ret
      exact ⟨cd ht.symm,rfl⟩
    by_cases e2:rg b=3931642474694443008
    · have o2:=fJ y2 r1 c2 h4 (by rw [k1,m2]; exact e2.symm)
      have o3:=fR r1 y3 h4 c3 (by rw [k1,m3]; omega)
      rw [z2] at o2
      rw [z3] at o3
      have ht:cm b=true:=by unfold cm; simp [e2]
      go_enter Tryz.func19,Tryz.ntmps19
      go_wp2_with (first
        | (go_at_call 20; refine (aW _ _).mono ?_; rintro _ _ ⟨rfl,rfl⟩)
        | (go_at_call 21; refine (cr hb _).mono ?_; rintro _ _ ⟨rfl,rfl⟩))
      go_ret
      exact ⟨cd ht.symm,rfl⟩
    have o2:=fR y2 r1 c2 h4 (by rw [k1,m2]; omega)
    rw [z2] at o2
    rcases Int.lt_trichotomy (rg b) 5282722362905591808 with h | h | h
    · have o3:=fR r1 y3 h4 c3 (by rw [k1,m3]; omega)
      rw [z3] at o3
      have ht:cm b=true:=by unfold cm; simp [e0]; omega
      go_enter Tryz.func19,Tryz.ntmps19
      go_wp2_with (first
        | (go_at_call 20; refine (aW _ _).mono ?_; rintro _ _ ⟨rfl,rfl⟩)
        | (go_at_call 21; refine (cr hb _).mono ?_; rintro _ _ ⟨rfl,rfl⟩))
      go_ret
      exact ⟨cd ht.symm,rfl⟩
    · have o3:=fJ r1 y3 h4 c3 (by rw [k1,m3]; omega)
      rw [z3] at o3
      have ht:cm b=false:=by unfold cm; simp [e0]; omega
      go_enter Tryz.func19,Tryz.ntmps19
      go_wp2_with (first
        | (go_at_call 20; refine (aW _ _).mono ?_; rintro _ _ ⟨rfl,rfl⟩)
        | (go_at_call 21; refine (cr hb _).mono ?_; rintro _ _ ⟨rfl,rfl⟩))
      go_ret
      exact ⟨cd ht.symm,rfl⟩
    · have o3:=fU r1 y3 h4 c3 (by rw [k1,m3]; omega)
      rw [z3] at o3
      have ht:cm b=false:=by unfold cm; simp [e0]; omega
      go_enter Tryz.func19,Tryz.ntmps19
      go_wp2_with (first
        | (go_at_call 20; refine (aW _ _).mono ?_; rintro _ _ ⟨rfl,rfl⟩)
        | (go_at_call 21; refine (cr hb _).mono ?_; rintro _ _ ⟨rfl,rfl⟩))
      go_ret
      exact ⟨cd ht.symm,rfl⟩
theorem qh {p B g o:Nat} {v x0 x1:Value} {W:World} (hg:B<=g) (h:p<B∧B<=W.heap.size∧W.cell? ⟨p,0,none⟩=some x0∧W.cell? ⟨p,1,none⟩=some x1) :
  p<B∧B<=(W.setCell ⟨g,o,none⟩ v).heap.size∧(W.setCell ⟨g,o,none⟩ v).cell? ⟨p,0,none⟩=some x0∧(W.setCell ⟨g,o,none⟩ v).cell? ⟨p,1,none⟩=some x1:=by
 have hw:Wr g W (W.setCell ⟨g,o,none⟩ v):=(Wr.refl g W).setCell o v
 obtain ⟨h1,h2,a0,a1⟩:=h
 have hp:p<W.heap.size:=by omega
 have hne:p≠g:=by omega
 exact ⟨h1,Nat.le_trans h2 hw.size,(hw.cell hp hne).trans a0,(hw.cell hp hne).trans a1⟩
theorem aM {w:World} {g:Nat} {xs:Array Value} {t:TypeId} (h:w.heap[g]?=some (.cells xs t (0,0))) (i:Nat) (v:Value):(w.setCell ⟨g,i,none⟩ v).heap[g]?=some (.cells (xs.setIfInBounds i v) t (0,0)):=by
 simp [World.setCell,Array.getElem?_modify,h]
def mp (b:Bool):Int:=if b then 0 else 10
def tG (d:Nat->Int) (n:Nat):Bool:=decide (∀ i,i<n->ak (d i)=true)
theorem DX (ao:Option Addr) (n cap:Nat) (d:Nat->Int) (w:World) (h:aQ w ao n cap d) (hd:∀ i,i<n->aj (d i)) :
    Calls Tryz.prog 48 #[.slice ao n cap] w fun e w'=>e=.returned (.int .i64 (mp (tG d n)))∧w'=w:=by
  have hl:=h.le
  have hm:=h.max
  go_enter Tryz.func48,Tryz.ntmps48
  go_wp2_with fail
  go_loop [7] (fun i=>∃ k:Nat,k<=n∧i=.int .i64 k∧Hid (∀ j,j<k->ak (d j)=true)) (fun i=>n-(intOf i).toNat)
  case atStart=>exact ⟨0,Nat.zero_le _,rfl,fun j hj=>by omega⟩
  case round=>
    obtain ⟨k,hk,rfl,HO⟩:=hrel
    by_cases hlt:k<n
    · obtain ⟨b,off,rfl,hb,hc⟩:=h.spot (by omega)
      have c0:=hc k hlt
      have hr:=hd k hlt
      by_cases hok:ak (d k)=true
      · go_wp2_with (first
          | (go_at_call 20; refine (aW _ _).mono ?_; rintro _ _ ⟨rfl,rfl⟩)
          | (go_at_call 74; refine (xW hr _).mono ?_; rintro _ _ ⟨rfl,rfl⟩))
        go_round
        case rel=>exact ⟨k+1,by omega,by go_num,fun j hj=>by
            by_cases e:j=k
            · subst e; exact hok
            · exact HO.out j (by omega)⟩
        case measure=>simp [intOf]; omega
      · have hok':ak (d k)=false:=by simpa using hok
        go_wp2_with (first
          | (go_at_call 20; refine (aW _ _).mono ?_; rintro _ _ ⟨rfl,rfl⟩)
          | (go_at_call 74; refine (xW hr _).mono ?_; rintro _ _ ⟨rfl,rfl⟩))
        go_ret
        exact ⟨b8 (by
          unfold mp
          rw [if_neg]
          intro hx
          exact hok (of_decide_eq_true hx k hlt)),rfl⟩
    · obtain rfl:k=n:=by omega
      go_wp2
      go_ret
      exact ⟨b8 (by unfold mp; rw [if_pos (show tG d k=true from decide_eq_true HO.out)]),rfl⟩
theorem Jw (x y:Int):tG (fun i=>if i=0 then x else y) 2=(ak x && ak y):=by
 unfold tG
 rw [Bool.eq_iff_iff]
 simp
 constructor
 ·intro h
  exact ⟨by simpa using h 0 (by omega),by simpa using h 1 (by omega)⟩
 ·rintro ⟨h1,h2⟩ i hi
  split
  ·exact h1
  ·exact h2
theorem KT (w:World) (o:Obj) (x y:Int) (t:TypeId):aQ ((w.alloc o).alloc (.cells #[.int .i64 x,.int .i64 y] t)) (some ⟨w.heap.size+1,0,none⟩) 2 2 (fun i=>if i=0 then x else y) :=
  ⟨by omega,by omega,(fun h=>by cases h),fun _=>⟨_,_,rfl,by simp,fun i hi=>by
    have e:((w.alloc o).alloc (.cells #[.int .i64 x,.int .i64 y] t)).heap[w.heap.size+1]?=some (.cells #[.int .i64 x,.int .i64 y] t):=cR w o _
    unfold World.cell?
    rw [show ((⟨w.heap.size+1,0+i,none⟩:Addr)).block=w.heap.size+1 from rfl,e]
    match i,hi with
    | 0,_=>rfl
    | 1,_=>rfl⟩⟩
theorem oP {x y:Int} (hx:aj x) (hy:aj y) (w:World) :
  Calls Tryz.prog 28 #[.agg #[.int .i64 x,.int .i64 y]] w fun e w'=>e=.returned (.int .i64 (mp (ak x && ak y)))∧Below w.heap.size w w':=by
 have hr:=KT w (.cells #[.int .i64 x,.int .i64 y] 23) x y 3
 have e2:=Jw x y
 go_enter Tryz.func28,Tryz.ntmps28
 go_wp2_with fail
 refine (DX _ _ _ _ _ hr (fun i _=>by show aj (if i=0 then x else y); split <;> assumption)).mono ?_
 rintro _ _ ⟨rfl,rfl⟩
 go_wp2
 go_ret
 exact ⟨b8 (by rw [<- e2]),aP _ _ _⟩
def ck:Ending:=.panicked [{ v:=.iface 29 (.int .i64 14),recovered:=false }]
theorem lX {b:Int} (hb:aj b) (w:World) :
  Calls Tryz.prog 130 #[.int .i64 b] w fun e w'=>e=.returned (.bool (decide (rg b=0)))∧w'=w:=by
 have ho:=xV hb
 generalize decide (rg b=0)=Z at *
 go_enter Tryz.func130,Tryz.ntmps130
 go_wp2_with (go_at_call 20; refine (aW _ _).mono ?_; rintro _ _ ⟨rfl,rfl⟩)
 go_ret
 exact ⟨cd (by first | rfl | simp [ho]),rfl⟩
theorem gp (h l:Int) (w:World) :
  Calls Tryz.prog 131 #[.int .i64 h,.int .i64 l,.bool true] w fun e w'=>e=.returned (.tuple #[.int .i64 h,.int .i64 l])∧w'=w:=by
 go_enter Tryz.func131,Tryz.ntmps131
 go_wp2
 refine bodyPost_ret (v:=.tuple #[.int .i64 h,.int .i64 l]) (by simp [results,Tryz.results131,go_sem]) rfl ⟨rfl,rfl⟩
theorem kM (h l:Int) (w:World) :
  Calls Tryz.prog 131 #[.int .i64 h,.int .i64 l,.bool false] w fun e w'=>e=ck∧w'=w:=by
 go_enter Tryz.func131,Tryz.ntmps131
 go_wp2
 exact ⟨rfl,rfl,rfl⟩
structure Im (B:Nat) (w:World) (v:Value) (w':World) (v':Value) (s:Ls):Prop where
 out:aX B w' v' s.n s.d
 gr:w.grownBy w' v.ownBlock
 at':v'.ownBlock=v.ownBlock∨∀ k,v'.ownBlock=some k->w.heap.size<=k
theorem Im.refl {B:Nat} {w:World} {v:Value} {s:Ls} (h:aX B w v s.n s.d):Im B w v w v s:=⟨h,World.grownBy.refl _ _,.inl rfl⟩
theorem Im.below {B:Nat} {w w':World} {v v':Value} {s:Ls} (h:Im B w v w' v' s) (hO:∀ k,v.ownBlock=some k->B<=k) (hB:B<=w.heap.size):Below B w w' :=
 (Below.refl B w).grown h.gr hB hO
theorem lM {w w1:World} {o:Obj} {k:Option Nat} (h:(w.alloc o).grownBy w1 k):w.grownBy w1 k:=by
 have ha:=ah w o
 exact ⟨h.os.trans ha.os,h.tape.trans ha.tape,h.output.trans ha.output,Nat.le_trans ha.size h.size,fun k hk hne=>(h.block k (Nat.lt_of_lt_of_le hk ha.size) hne).trans (ha.block k hk)⟩
theorem xX {B:Nat} {v:Value} {s:Ls} {b:Int} (w:World) (h:aX B w v s.n s.d) (hb:aj b) (hn:s.n<=900000) (hB:B<=w.heap.size) :
    Calls Tryz.prog 132 #[v,.int .i64 b] w fun e w'=>∃ v',e=.returned v'∧aX B w' v' (s.add b).n (s.add b).d∧w.grownBy w' v.ownBlock:=by
  have hz:=fun W=>lX hb W
  by_cases h0:rg b=0
  · have e:s.add b=s:=by unfold Ls.add; rw [if_pos h0]
    rw [decide_eq_true h0] at hz
    rw [e]
    go_enter Tryz.func132,Tryz.ntmps132
    go_wp2_with (go_at_call 130; refine (hz _).mono ?_; rintro _ _ ⟨rfl,rfl⟩)
    go_ret
    exact ⟨v,rfl,h,World.grownBy.refl _ _⟩
  · have e:s.add b=⟨s.n+1,b7 s.d s.n b⟩:=by unfold Ls.add; rw [if_neg h0]
    rw [decide_eq_false h0] at hz
    rw [e]
    go_enter Tryz.func132,Tryz.ntmps132
    go_wp2_with (first
      | (go_at_call 130; refine (hz _).mono ?_; rintro _ _ ⟨rfl,rfl⟩)
      | (at_builtin; refine lG rfl _ _ rfl B _ s.n s.d rfl (h.stays (ah _ _)) _ 1 1 (fun _=>b) rfl (r7 _ _ rfl) (by omega) (by simp; omega) ?_; intro v' w1 hO1 hg1))
    go_ret
    refine ⟨v',rfl,hO1.congr fun i hi=>?_,?_⟩
    · by_cases e:i<s.n
      · simp [kr,e,aV s.d _ (show i≠s.n by omega)]
      · obtain rfl:i=s.n:=by omega
        simp [kr,bt]
    · exact lM hg1
def mP (w:World) (g cap N:Nat) (s:Ls):Prop:=∃ cur,w.heap[g]?=some (.cells cur 3 (0,0))∧cur.size=cap∧∀ i,i<N->cur[i]?=some (.int .i64 (s.d i))
theorem mP.keeps {w w':World} {g cap N:Nat} {s:Ls} (h:mP w g cap N s) (hb:Below w.heap.size w w'):mP w' g cap N s:=by
 obtain ⟨cur,h1,h2⟩:=h
 exact ⟨cur,(hb.block _ (Array.getElem?_eq_some_iff.1 h1).1).trans h1,h2⟩
theorem mP.out {w:World} {B g cap N:Nat} {s:Ls} (h:mP w g cap N s) (hn:s.n<=N) (hN:N<=cap) (hB:B<=g) (hm:cap<=9223372036854775807):aX B w (.slice (some ⟨g,0,none⟩) s.n cap) s.n s.d:=by
 obtain ⟨cur,h1,h2,h3⟩:=h
 refine ⟨by rw [bR]; omega,.inr ⟨g,cap,cur,rfl,hB,h1,by omega,by unfold maxLen; omega,by omega,?_⟩⟩
 apply jD (by simp; omega)
 intro i hi
 rw [List.getElem?_take,if_pos (by omega),Array.getElem?_toList]
 exact h3 i (by omega)
theorem aX.inB {B:Nat} {w:World} {g n cap:Nat} {d:Nat->Int} (h:aX B w (.slice (some ⟨g,0,none⟩) n cap) n d):mP w g cap n ⟨0,d⟩∧n<=cap∧cap<=9223372036854775807∧B<=g:=by
 rcases h.2 with ⟨e,_⟩ | ⟨g',cap',cur,e,hb,hg,hn,hm,hs,ht⟩
 ·simp at e
 ·simp only [Value.slice.injEq,Option.some.injEq,Addr.mk.injEq,and_true,true_and] at e
  obtain ⟨rfl,rfl⟩:=e
  refine ⟨⟨cur,hg,by omega,fun i hi=>?_⟩,hn,by unfold maxLen at hm; exact hm,hb⟩
  have e:(cur.toList.take (n*1))[i]?=(eP d n)[i]?:=by rw [ht]
  rw [List.getElem?_take,if_pos (by omega),eW d hi,Array.getElem?_toList] at e
  exact e
theorem xY {w:World} {ops:Array Oper} {rest:List Oper} {o:Oper} {a:Act} {Q:Exit->Act->World->Prop} (hgd:o.guard=none) (s x:Operand)
    (ho:o.op=.call { callee:=.builtin .append,args:=#[s,x],argTypes:=#[32,32] }) (g m cap N:Nat) (r:Ls) (hs:a.eval s=.slice (some ⟨g,0,none⟩) m cap) (hI:mP w g cap N r) (hm:m<cap)
    (ad:Addr) (b:Int) (hx:a.eval x=.slice (some ad) 1 1) (hc:w.cell? ad=some (.int .i64 b))
    (h:∀ w',mP w' g cap N ⟨m+1,b7 r.d m b⟩->w.grownBy w' (some g)->wpList Tryz.prog ops Q rest (a.put o.dst (.slice (some ⟨g,0,none⟩) (m+1) cap)) w'):wpList Tryz.prog ops Q (o :: rest) a w:=by
  obtain ⟨i0,hi,hz0,hz1,hz2⟩:=info_parts iM
  obtain ⟨cur,hg,hs2,hr⟩:=hI
  refine wpList_plain hgd fun K hK'=>?_
  have hr2:=run_append_room (P:=Tryz.prog) w 32 o.type 3 i0 Tryz.underlying32 hi g m cap cur hg ad 1 1 [.int .i64 b] (by rw [hz1]; rfl) (by
    intro j u hu
    match j,hu with
    | 0,hu=>
      simp at hu
      subst hu
      rw [show ad.add 0=ad by unfold Addr.add; split <;> simp_all]
      exact hc) (by simp [Value.oneCell']) (by omega) (by rw [hz1]; simp; omega)
  unfold Oper.wp
  simp [execOp,ho,resolve,invoke,builtin,hs,hx,hr2,Result.andThen]
  refine hK' _ _ (h _ ?_ ?_)
  · refine ⟨_,setRow_heap w g cur _ _ _ hg,?_,fun i hi=>?_⟩
    · simp [hz1]; omega
    · rw [hz1]
      show (cur.toList.take (m*1) ++ Value.int .i64 b :: cur.toList.drop (m*1+1)).toArray[i]?=some (.int .i64 (b7 r.d m b i))
      rw [Nat.mul_one]
      have hl:(cur.toList.take m).length=m:=by simp; omega
      rw [List.getElem?_toArray]
      by_cases e:i=m
      · subst e
        rw [bt,List.getElem?_append_right (by omega),hl]
        simp
      · rw [aV _ _ e,<- hr i hi]
        by_cases e2:i<m
        · rw [List.getElem?_append_left (by omega),List.getElem?_take,if_pos e2,Array.getElem?_toList]
        · rw [List.getElem?_append_right (by omega),hl]
          obtain ⟨j,hj⟩:∃ j,i-m=j+1:=⟨i-m-1,by omega⟩
          rw [hj,List.getElem?_cons_succ,List.getElem?_drop,Array.getElem?_toList]
          rw [show m+1+j=i by omega]
  · exact ⟨rfl,rfl,rfl,by simp,fun k _ hk=>setRow_other w g k _ (fun e=>hk (by simp [e]))⟩
theorem Au {g cap N:Nat} {s:Ls} {b:Int} (w:World) (h:mP w g cap N s) (hb:aj b) (hn:s.n<cap) :
    Calls Tryz.prog 132 #[.slice (some ⟨g,0,none⟩) s.n cap,.int .i64 b] w fun e w'=>e=.returned (.slice (some ⟨g,0,none⟩) (s.add b).n cap)∧mP w' g cap N (s.add b)∧w.grownBy w' (some g):=by
  have hz:=fun W=>lX hb W
  by_cases h0:rg b=0
  · have e:s.add b=s:=by unfold Ls.add; rw [if_pos h0]
    rw [decide_eq_true h0] at hz
    rw [e]
    go_enter Tryz.func132,Tryz.ntmps132
    go_wp2_with (go_at_call 130; refine (hz _).mono ?_; rintro _ _ ⟨rfl,rfl⟩)
    go_ret
    exact ⟨rfl,h,World.grownBy.refl _ _⟩
  · have e:s.add b=⟨s.n+1,b7 s.d s.n b⟩:=by unfold Ls.add; rw [if_neg h0]
    rw [decide_eq_false h0] at hz
    rw [e]
    have hr:=fun W:World=>r7 W b rfl
    go_enter Tryz.func132,Tryz.ntmps132
    go_wp2_with (first
      | (go_at_call 130; refine (hz _).mono ?_; rintro _ _ ⟨rfl,rfl⟩)
      | (at_builtin; refine xY rfl _ _ rfl g s.n cap N s rfl (h.keeps (ah _ _)) hn _ b rfl (by obtain ⟨bb,off,e1,_,hc⟩:=(hr _).spot (by omega); simp only [Option.some.injEq] at e1; have:=hc 0 (by omega); rw [Nat.add_zero] at this; rw [<- e1] at this; exact this) ?_; intro w1 hI1 hg1))
    go_ret
    refine ⟨rfl,hI1,?_⟩
    exact lM hg1
theorem uM {p q:Int} (hp:aj p) (hq:aj q) (pp:ak p=true) (pq:ak q=true) (w:World) :
  Calls Tryz.prog 120 #[.int .i64 p,.int .i64 q] w fun e w'=>e=.returned (.tuple #[.int .i64 (ap p q),.int .i64 (sL p q),.bool (ak (sL p q))])∧Below w.heap.size w w':=by
 have:=tD hp hq w
 rw [lW pp hp,lW pq hq] at this
 exact this
theorem DY {B:Nat} {w w':World} {g:Nat} (h:w.grownBy w' (some g)) (hB:B<=g) (hw:B<=w.heap.size):Below B w w' :=
 (Below.refl B w).grown h hw (fun k hk=>by simp at hk; omega)
theorem lN {w w1 w2:World} {o:Option Nat} (h:w.grownBy w1 o) (k:Below w1.heap.size w1 w2):w.grownBy w2 o :=
 ⟨k.os.trans h.os,k.tape.trans h.tape,k.output.trans h.output,Nat.le_trans h.size k.size,fun j hj hne=>(k.block j (Nat.lt_of_lt_of_le hj h.size)).trans (h.block j hj hne)⟩
theorem qi {w w1 w2:World} {o:Option Nat} (h:w.grownBy w1 o) (k:w1.grownBy w2 o):w.grownBy w2 o :=
 ⟨k.os.trans h.os,k.tape.trans h.tape,k.output.trans h.output,Nat.le_trans h.size k.size,fun j hj hne=>(k.block j (Nat.lt_of_lt_of_le hj h.size) hne).trans (h.block j hj hne)⟩
theorem BJ {B g n cap:Nat} {d:Nat->Int} {q:Int} (w:World) (h:aX B w (.slice (some ⟨g,0,none⟩) n cap) n d) (hd:∀ i,i<n->aj (d i)∧ak (d i)=true) (hq:aj q) (pq:ak q=true) (hn:n<=800000) (hB:B<=w.heap.size) :
  Calls Tryz.prog 134 #[.slice (some ⟨g,0,none⟩) n cap,.int .i64 q] w fun e w'=>(gx d q n=true∧∃ v',e=.returned v'∧aX B w' v' (gO n d q).n (gO n d q).d∧w.grownBy w' (some g))∨(gx d q n=false∧e=ck∧w.grownBy w' (some g)):=by
 obtain ⟨hI,hnc,hcm,hBg⟩:=h.inB
 have HQ:Hid (∀ k,k<=n->gx d q k=true->aj (gq d q k)∧ak (gq d q k)=true):=ju hd hq pq
 have HDD:Hid (∀ i,i<n->aj (d i)∧ak (d i)=true):=hd
 have hgl:g<w.heap.size:=by obtain ⟨cur,h1,_⟩:=hI; exact (Array.getElem?_eq_some_iff.1 h1).1
 clear hd h hq pq
 go_enter Tryz.func134,Tryz.ntmps134
 go_wp2_with fail
 go_loopw [1,5,13] (fun qv gv iv wr=>∃ k:Nat,k<=n∧iv=.int .i64 k∧qv=.int .i64 (gq d q k)∧gv=.slice (some ⟨g,0,none⟩) (gs d q k).n cap∧Hid (gx d q k=true)∧Hid (mP wr g cap n (gs d q k))∧Hid (w.grownBy wr (some g))) (fun _ _ iv _=>n-(intOf iv).toNat)
 case atStart=>exact ⟨0,Nat.zero_le _,rfl,rfl,rfl,rfl,hI,World.grownBy.refl _ _⟩
 case round=>
  obtain ⟨k,hk,rfl,rfl,rfl,HX,HI,HG⟩:=hrel
  clear hI
  have hsn:=tF d q k
  by_cases hlt:k<n
  ·obtain ⟨r1,r2⟩:=HQ.out k hk HX.out
   obtain ⟨d1,d2⟩:=HDD.out k hlt
   have c0:wr.cell? ⟨g,k,none⟩=some (.int .i64 (d k)):=by
    obtain ⟨cur,h1,h2,h3⟩:=HI.out
    rw [cell_of_row wr g k cur _ _ h1,h3 k hlt,qN d q k k (Nat.le_refl _)]
   have CT:Hid (∀ W,Calls Tryz.prog 120 #[.int .i64 (gq d q k),.int .i64 (d k)] W fun e w'=>e=.returned (.tuple #[.int .i64 (gq d q (k+1)),.int .i64 (gl d q k),.bool (ak (gl d q k))])∧Below W.heap.size W w'):=fun W=>uM r1 d1 r2 d2 W
   have rl:aj (gl d q k):=jt r1 d1
   have i0:(0:Int)<=(k:Int):=by omega
   have i1:(k:Int)<(n:Int):=by omega
   have HS:Hid (gs d q (k+1)=(gs d q k).add (gl d q k)):=rfl
   have HXS:Hid (gx d q (k+1)=(gx d q k && ak (gl d q k))):=rfl
   have HNO:Hid (ak (gl d q k)=false->gx d q n=false):=fun hno=>by
    cases hx:gx d q n
    ·rfl
    ·have:=uL (show k+1<=n by omega) hx
     rw [HXS.out,hno,Bool.and_false] at this
     cases this
   obtain ⟨q',hq'⟩:∃ q',gq d q (k+1)=q':=⟨_,rfl⟩
   rw [hq'] at CT
   have HQ':Hid (gq d q (k+1)=q'):=hq'
   clear hq'
   generalize gl d q k=l at *
   generalize gq d q k=q0 at *
   generalize hd0:d k=dk at *
   have HD0:Hid (d k=dk):=hd0
   clear hd0 r1 r2 d1 d2
   have CA:=fun W h=>Au (g:=g) (cap:=cap) (N:=n) (s:=gs d q k) (b:=l) W h rl (by omega)
   generalize hs0:gs d q k=s0 at *
   have HS0:Hid (gs d q k=s0):=hs0
   clear hs0
   cases hl:ak l
   ·rw [hl] at CT
    go_wp2_with fail
    refine (CT.out _).mono ?_
    rintro _ w1 ⟨rfl,hb1⟩
    go_wp2_with fail
    refine (kM _ _ _).mono ?_
    rintro _ _ ⟨rfl,rfl⟩
    unfold ck
    go_wp2
    exact ⟨rfl,.inr ⟨HNO.out hl,rfl,lN HG.out hb1⟩⟩
   ·rw [hl] at CT
    go_wp2_with fail
    refine (CT.out _).mono ?_
    rintro _ w1 ⟨rfl,hb1⟩
    go_wp2_with fail
    refine (gp _ _ _).mono ?_
    rintro _ _ ⟨rfl,rfl⟩
    rename_i w1
    go_wp2_with fail
    refine (CA _ (HI.out.keeps hb1)).mono ?_
    rintro _ w2 ⟨rfl,hI2,hg2⟩
    go_wp2
    go_roundw
    case rel=>exact ⟨k+1,by omega,by go_num,by rw [HQ'.out],by rw [HS.out],by show _=_; rw [HXS.out,HX.out,hl]; rfl,by show mP _ _ _ _ _; rw [HS.out]; exact hI2,qi (lN HG.out hb1) hg2⟩
    case measure=>simp [intOf]; omega
  ·obtain rfl:k=n:=by omega
   have hO:=HI.out.out (B:=B) hsn hnc hBg hcm
   have hwr:B<=wr.heap.size:=Nat.le_trans hB HG.out.size
   have HQ2:Hid (aj (gq d q k)∧ak (gq d q k)=true):=HQ.out k hk HX.out
   have CA:Hid (∀ W,W=wr->Calls Tryz.prog 132 #[.slice (some ⟨g,0,none⟩) (gs d q k).n cap,.int .i64 (gq d q k)] W fun e w'=>∃ v',e=.returned v'∧aX B w' v' (gO k d q).n (gO k d q).d∧W.grownBy w' (some g)):=fun W hW=>by
    subst hW
    exact xX W hO HQ2.out.1 (by omega) hwr
   generalize gq d q k=q0 at *
   generalize gs d q k=s0 at *
   clear hO
   go_wp2_with fail
   refine (CA.out _ rfl).mono ?_
   rintro _ w2 ⟨v',rfl,hO2,hg2⟩
   go_wp2
   go_ret
   exact .inl ⟨HX.out,v',rfl,hO2,qi HG.out hg2⟩
theorem DZ {B n:Nat} {v:Value} {d:Nat->Int} {q:Int} (w:World) (h:aX B w v n d) (hd:∀ i,i<n->aj (d i)∧ak (d i)=true) (hq:aj q) (pq:ak q=true) (hn:n<=800000) (hB:B<=w.heap.size) :
  Calls Tryz.prog 134 #[v,.int .i64 q] w fun e w'=>(gx d q n=true∧∃ v',e=.returned v'∧aX B w' v' (gO n d q).n (gO n d q).d∧w.grownBy w' v.ownBlock)∨(gx d q n=false∧e=ck∧w.grownBy w' v.ownBlock):=by
 rcases id h.2 with ⟨rfl,rfl⟩ | ⟨g,cap,cur,rfl,_⟩
 ·have CA:Hid (∀ W,W=w->Calls Tryz.prog 132 #[.slice none 0 0,.int .i64 q] W fun e w'=>∃ v',e=.returned v'∧aX B w' v' (gO 0 d q).n (gO 0 d q).d∧W.grownBy w' none):=fun W hW=>by
   subst hW
   exact xX (s:=⟨0,d⟩) W h hq (Nat.zero_le _) hB
  clear h hd hq pq
  go_enter Tryz.func134,Tryz.ntmps134
  go_wp2_with fail
  go_loopw [1,5,13] (fun qv gv iv wr=>iv=.int .i64 0∧qv=.int .i64 q∧gv=.slice none 0 0∧wr=w) (fun _ _ iv _=>0)
  case atStart=>exact ⟨rfl,rfl,rfl,rfl⟩
  case round=>
   obtain ⟨rfl,rfl,rfl,rfl⟩:=hrel
   go_wp2_with fail
   refine (CA.out _ rfl).mono ?_
   rintro _ w2 ⟨v',rfl,hO2,hg2⟩
   go_wp2
   go_ret
   exact .inl ⟨rfl,v',rfl,hO2,hg2⟩
 ·exact BJ w h hd hq pq hn hB
def gT (B:Nat) (w:World) (v:Value) (s:Ls):Prop:=aX B w v s.n s.d∨(s.n=0∧∃ ad,v=.slice (some ad) 0 0)
def rC (B:Nat) (w:World) (v:Value) (w':World):Prop:=w.grownBy w' none∨∃ k,v.ownBlock=some k∧B<=k∧w.grownBy w' (some k)
theorem rC.of_out {B:Nat} {w w':World} {v:Value} {n:Nat} {d:Nat->Int} (h:aX B w v n d) (g:w.grownBy w' v.ownBlock):rC B w v w':=by
 cases e:v.ownBlock with
 | none=>rw [e] at g; exact .inl g
 | some k=>rw [e] at g; exact .inr ⟨k,e,wX h k e,g⟩
theorem rC.below {B:Nat} {w w':World} {v:Value} (h:rC B w v w') (hB:B<=w.heap.size):Below B w w':=by
 rcases h with h | ⟨k,_,hk,h⟩
 ·exact (Below.refl B w).grown h hB (fun k hk=>by cases hk)
 ·exact DY h hk hB
theorem rC.size {B:Nat} {w w':World} {v:Value} (h:rC B w v w'):w.heap.size<=w'.heap.size:=by
 rcases h with h | ⟨k,_,_,h⟩ <;> exact h.size
theorem KU {ad:Addr} {d:Nat->Int} {b:Int} (w:World) (hb:aj b) :
    Calls Tryz.prog 132 #[.slice (some ad) 0 0,.int .i64 b] w fun e w'=>∃ v',e=.returned v'∧gT w.heap.size w' v' ((⟨0,d⟩:Ls).add b)∧w.grownBy w' none:=by
  have hz:=fun W=>lX hb W
  by_cases h0:rg b=0
  · have e:(⟨0,d⟩:Ls).add b=⟨0,d⟩:=by unfold Ls.add; rw [if_pos h0]
    rw [decide_eq_true h0] at hz
    rw [e]
    go_enter Tryz.func132,Tryz.ntmps132
    go_wp2_with (go_at_call 130; refine (hz _).mono ?_; rintro _ _ ⟨rfl,rfl⟩)
    go_ret
    exact ⟨_,rfl,.inr ⟨rfl,ad,rfl⟩,World.grownBy.refl _ _⟩
  · have e:(⟨0,d⟩:Ls).add b=⟨1,b7 d 0 b⟩:=by unfold Ls.add; rw [if_neg h0]
    rw [decide_eq_false h0] at hz
    rw [e]
    obtain ⟨i0,hi,hz0,hz1,hz2⟩:=info_parts iM
    have hr:=fun W:World=>r7 W b rfl
    go_enter Tryz.func132,Tryz.ntmps132
    go_wp2_with (first
      | (go_at_call 130; refine (hz _).mono ?_; rintro _ _ ⟨rfl,rfl⟩)
      | (at_builtin; refine wpList_append_grows _ rfl _ _ 32 rfl 3 i0 (.int .i64 0) 1 8 Tryz.underlying32 hi hz0 hz1 hz2 rfl (by decide) (some ad) 0 0 [] rfl (fun q=>by cases q) rfl (fun _ _ j u hu=>by simp at hu) _ 1 1 [.int .i64 b] rfl rfl (by intro j u hu; match j,hu with | 0,hu=>(simp at hu; subst hu; obtain ⟨bb,off,e1,_,hc⟩:=(hr _).spot (by omega); simp only [Option.some.injEq] at e1; have:=hc 0 (by omega); rw [Nat.add_zero] at this; rw [<- e1] at this; rw [ol]; exact this)) (by simp [Value.oneCell']) (by omega) (by unfold maxLen; omega) (by omega) ?_; intro v' w1 hO1 hg1))
    go_ret
    refine ⟨v',rfl,.inl ?_,lM hg1⟩
    have hO2:=hO1
    rw [show ([] ++ [Value.int .i64 b]:List Value)=eP (b7 d 0 b) (0+1) from (jD rfl fun i hi=>by
      match i,hi with
      | 0,_=>simp [bt])] at hO2
    have hO3:aX _ w1 v' (0+1) (b7 d 0 b):=hO2
    exact hO3.lower (by simp)
theorem Jx {ad:Addr} {d:Nat->Int} {q:Int} (w:World) (hq:aj q) :
  Calls Tryz.prog 134 #[.slice (some ad) 0 0,.int .i64 q] w fun e w'=>∃ v',e=.returned v'∧gT w.heap.size w' v' (gO 0 d q)∧w.grownBy w' none:=by
 have CA:Hid (∀ W,W=w->Calls Tryz.prog 132 #[.slice (some ad) 0 0,.int .i64 q] W fun e w'=>∃ v',e=.returned v'∧gT W.heap.size w' v' (gO 0 d q)∧W.grownBy w' none):=fun W hW=>by
  subst hW
  exact KU W hq
 clear hq
 go_enter Tryz.func134,Tryz.ntmps134
 go_wp2_with fail
 go_loopw [1,5,13] (fun qv gv iv wr=>iv=.int .i64 0∧qv=.int .i64 q∧gv=.slice (some ad) 0 0∧wr=w) (fun _ _ iv _=>0)
 case atStart=>exact ⟨rfl,rfl,rfl,rfl⟩
 case round=>
  obtain ⟨rfl,rfl,rfl,rfl⟩:=hrel
  go_wp2_with fail
  refine (CA.out _ rfl).mono ?_
  rintro _ w2 ⟨v',rfl,hO2,hg2⟩
  go_wp2
  go_ret
  exact ⟨v',rfl,hO2,hg2⟩
theorem gT.lower {B B':Nat} {w:World} {v:Value} {s:Ls} (h:gT B w v s) (hB:B'<=B):gT B' w v s:=by
 rcases h with h | h
 ·exact .inl (h.lower hB)
 ·exact .inr h
theorem Jy {B:Nat} {v:Value} {s:Ls} {q:Int} (w:World) (h:gT B w v s) (hd:∀ i,i<s.n->aj (s.d i)∧ak (s.d i)=true) (hq:aj q) (pq:ak q=true) (hn:s.n<=800000) (hB:B<=w.heap.size) :
  Calls Tryz.prog 134 #[v,.int .i64 q] w fun e w'=>(gx s.d q s.n=true∧∃ v',e=.returned v'∧gT B w' v' (gO s.n s.d q)∧rC B w v w')∨(gx s.d q s.n=false∧e=ck∧rC B w v w'):=by
 rcases h with h | ⟨h0,ad,rfl⟩
 ·refine (DZ w h hd hq pq hn hB).mono ?_
  rintro e w' (⟨h1,v',h2,h3,h4⟩ | ⟨h1,h2,h3⟩)
  ·exact .inl ⟨h1,v',h2,.inl h3,rC.of_out h h4⟩
  ·exact .inr ⟨h1,h2,rC.of_out h h3⟩
 ·obtain ⟨sn,sd⟩:=s
  simp only at h0
  subst h0
  refine (Jx (d:=sd) w hq).mono ?_
  rintro e w' ⟨v',h1,h2,h3⟩
  exact .inl ⟨rfl,v',h1,h2.lower hB,.inl h3⟩
def Ls.fin (s:Ls):Prop:=∀ i,i<s.n->aj (s.d i)∧ak (s.d i)=true
theorem Ls.fin.add {s:Ls} (h:s.fin) {b:Int} (hb:aj b) (pb:ak b=true):(s.add b).fin:=by
 unfold Ls.add
 split
 ·exact h
 ·intro i hi
  show aj (b7 s.d s.n b i)∧ak (b7 s.d s.n b i)=true
  by_cases e:i=s.n
  ·subst e; rw [bt]; exact ⟨hb,pb⟩
  ·rw [aV _ _ e]
   exact h i (by have:i<s.n+1:=hi; omega)
theorem D0 {d:Nat->Int} {q:Int} {n:Nat} (hd:∀ i,i<n->aj (d i)∧ak (d i)=true) (hq:aj q) (pq:ak q=true):∀ k,k<=n->gx d q k=true->(gs d q k).fin
 | 0,_,_=>fun i hi=>absurd hi (Nat.not_lt_zero _)
 | k+1,hk,hx=>by
  have hx':(gx d q k && ak (gl d q k))=true:=hx
  rw [Bool.and_eq_true] at hx'
  obtain ⟨r1,r2⟩:=ju hd hq pq k (by omega) hx'.1
  exact (D0 hd hq pq k (by omega) hx'.1).add (jt r1 (hd k (by omega)).1) hx'.2
theorem Jz {s:Ls} {q:Int} (hs:s.fin) (hq:aj q) (pq:ak q=true) (hx:gx s.d q s.n=true):(gO s.n s.d q).fin:=by
 obtain ⟨r1,r2⟩:=ju hs hq pq s.n (Nat.le_refl _) hx
 exact (D0 hs hq pq s.n (Nat.le_refl _) hx).add r1 r2
theorem KV (n:Nat) (d:Nat->Int) (q:Int):(gO n d q).n<=n+1:=by
 have h1:=tF d q n
 have h2:=((gs d q n).add_le (gq d q n)).2
 show ((gs d q n).add _).n<=n+1
 omega
def bX (s:Ls) (f:Nat->Int):Nat->Ls
 | 0=>s
 | k+1=>gO (bX s f k).n (bX s f k).d (f k)
def cO (s:Ls) (f:Nat->Int):Nat->Bool
 | 0=>true
 | k+1=>cO s f k && gx (bX s f k).d (f k) (bX s f k).n
theorem tH (s:Ls) (f:Nat->Int):∀ k,(bX s f k).n<=s.n+k
 | 0=>Nat.le_refl _
 | k+1=>by
  have h1:=tH s f k
  have h2:=KV (bX s f k).n (bX s f k).d (f k)
  show (gO _ _ _).n<=s.n+(k+1)
  omega
theorem sI {s:Ls} {f:Nat->Int}:∀ {k j},j<=k->cO s f k=true->cO s f j=true
 | 0,j,h,hx=>by
  obtain rfl:j=0:=by omega
  rfl
 | k+1,j,h,hx=>by
  by_cases e:j=k+1
  ·subst e; exact hx
  ·have:(cO s f k && gx (bX s f k).d (f k) (bX s f k).n)=true:=hx
   rw [Bool.and_eq_true] at this
   exact sI (by omega) this.1
theorem qO {s:Ls} {f:Nat->Int} {m:Nat} (hs:s.fin) (hf:∀ i,i<m->aj (f i)∧ak (f i)=true):∀ k,k<=m->cO s f k=true->(bX s f k).fin
 | 0,_,_=>hs
 | k+1,hk,hx=>by
  have hx':(cO s f k && gx (bX s f k).d (f k) (bX s f k).n)=true:=hx
  rw [Bool.and_eq_true] at hx'
  obtain ⟨r1,r2⟩:=hf k (by omega)
  exact Jz (qO hs hf k (by omega) hx'.1) r1 r2 hx'.2
theorem D3 {ad:Addr} {n cap:Nat} {d:Nat->Int} (w:World) (h:aQ w (some ad) n cap d) (h0:0<n) (hn:n<=700000) :
  Calls Tryz.prog 105 #[.slice (some ad) n cap] w fun e w'=>∃ v',e=.returned v'∧aX w.heap.size w' v' n d∧w.grownBy w' none:=by
 obtain ⟨i0,hi,hz0,hz1,hz2⟩:=info_parts iM
 obtain ⟨b,off,e0,hb,hc⟩:=h.spot h0
 have hle:=h.le
 have hmx:=h.max
 simp only [Option.some.injEq] at e0
 subst e0
 go_enter Tryz.func105,Tryz.ntmps105
 go_wp2_with (at_builtin; refine wpList_append_grows _ rfl _ _ 32 rfl 3 i0 (.int .i64 0) 1 8 Tryz.underlying32 hi hz0 hz1 hz2 rfl (by decide) _ 0 0 [] rfl (fun q=>⟨rfl,rfl⟩) rfl (fun _ _ j u hu=>by simp at hu) _ n cap (eP d n) rfl (by rw [bR]; omega) (by intro j u hu; have hj:j<n:=(by have:=(List.getElem?_eq_some_iff.1 hu).1; rwa [bR] at this); rw [eW d hj] at hu; rw [ol,hc j hj]; exact hu) (rZ d n) (by omega) (by unfold maxLen; omega) (by omega) ?_; intro v' w1 hO1 hg1)
 go_ret
 refine ⟨v',rfl,?_,hg1⟩
 rw [Nat.zero_add,List.nil_append] at hO1
 exact hO1
theorem D4 (ad ad2:Addr) (c:Nat) (ty:TypeId) (w:World):(Builtin.append_ #[32,32] ty #[.slice (some ad) 0 0,.slice (some ad2) 0 c]).run Tryz.prog w=.ok (.slice (some ad) 0 0) w:=by
 obtain ⟨i0,hi,hz0,hz1,hz2⟩:=info_parts iM
 have hf:=run_firstCells_some (P:=Tryz.prog) w i0.size 0 ad2 0 c [] (by simp) (by intro j u hu; simp at hu)
 simp [Builtin.append_,run_underlying Tryz.underlying32,sizeOf,typeInfo,hi,Builtin.lenOf,hf,storeCells]
theorem Gt (w:World):Calls Tryz.prog 105 #[.slice none 0 0] w fun e w'=>e=.returned (.slice none 0 0)∧w'=w:=by
 obtain ⟨i0,hi,hz0,hz1,hz2⟩:=info_parts iM
 go_enter Tryz.func105,Tryz.ntmps105
 go_wp2_with (at_builtin; refine wpList_append_own_none rfl _ _ 32 rfl w.heap.size 3 i0 1 Tryz.underlying32 hi (.slice none 0 0) 0 [] rfl (World.ownsRow_nil _ _ _ _) rfl ?_)
 go_ret
 exact ⟨rfl,rfl⟩
theorem D5 (ad:Addr) (cap:Nat) (hm:cap<=9223372036854775807) (w:World):Calls Tryz.prog 105 #[.slice (some ad) 0 cap] w fun e w'=>(∃ ad',e=.returned (.slice (some ad') 0 0))∧w'=w:=by
 have h0:=D4
 go_enter Tryz.func105,Tryz.ntmps105
 go_wp2
 all_goals go_ret
 all_goals exact ⟨⟨_,rfl⟩,rfl⟩
theorem xZ {ao:Option Addr} {n cap:Nat} {d:Nat->Int} (w:World) (h:aQ w ao n cap d) (hn:n<=700000) :
  Calls Tryz.prog 105 #[.slice ao n cap] w fun e w'=>∃ v',e=.returned v'∧gT w.heap.size w' v' ⟨n,d⟩∧w.grownBy w' none:=by
 cases ao with
 | none=>
  have hc:=h.nl rfl
  have hl:=h.le
  subst hc
  obtain rfl:n=0:=by omega
  refine (Gt w).mono ?_
  rintro e w' ⟨rfl,rfl⟩
  exact ⟨_,rfl,.inl (aX.nil _ _ _),World.grownBy.refl _ _⟩
 | some ad=>
  by_cases h0:n=0
  ·subst h0
   refine (D5 ad cap h.max w).mono ?_
   rintro e w' ⟨⟨ad',rfl⟩,rfl⟩
   exact ⟨_,rfl,.inr ⟨rfl,ad',rfl⟩,World.grownBy.refl _ _⟩
  ·refine (D3 w h (by omega) hn).mono ?_
   rintro e w' ⟨v',rfl,h1,h2⟩
   exact ⟨v',rfl,.inl h1,h2⟩
theorem mq (s:Ls) (f:Nat->Int) (k:Nat):bX s f (k+1)=gO (bX s f k).n (bX s f k).d (f k):=rfl
theorem jG (s:Ls) (f:Nat->Int) (k:Nat):cO s f (k+1)=(cO s f k && gx (bX s f k).d (f k) (bX s f k).n):=rfl
theorem gT.shape {B:Nat} {w:World} {v:Value} {s:Ls} (h:gT B w v s):∃ ao cap,v=.slice ao s.n cap:=by
 rcases h with h | ⟨h0,ad,rfl⟩
 ·obtain ⟨ao,cap,e,_⟩:=h.row
  exact ⟨ao,cap,e⟩
 ·exact ⟨some ad,0,by rw [h0]⟩
theorem zG {B:Nat} {v:Value} {s:Ls} {fo:Option Addr} {m fc:Nat} {f:Nat->Int} (w:World) (h:gT B w v s) (hs:s.fin) (hf:∀ W,Below B w W->aQ W fo m fc f) (hff:∀ i,i<m->aj (f i)∧ak (f i)=true) (hn:s.n+m<=700000) (hB:B<=w.heap.size) :
  Calls Tryz.prog 104 #[v,.slice fo m fc] w fun e w'=>(cO s f m=true∧∃ v',e=.returned v'∧gT B w' v' (bX s f m)∧Below B w w')∨(cO s f m=false∧e=ck∧Below B w w'):=by
 have hR:=hf w (Below.refl _ _)
 have hle:=hR.le
 have hmx:=hR.max
 have HF:Hid (∀ W,Below B w W->aQ W fo m fc f):=hf
 have HFF:Hid (∀ i,i<m->aj (f i)∧ak (f i)=true):=hff
 have HFI:Hid (∀ k,k<=m->cO s f k=true->(bX s f k).fin):=qO hs hff
 have hL:=tH s f
 obtain ⟨ao0,cap0,rfl⟩:=h.shape
 clear hf hff hR hs
 go_enter Tryz.func104,Tryz.ntmps104
 go_wp2_with fail
 go_loopw [0,9] (fun hv iv wr=>∃ (k:Nat) (v0:Value),k<=m∧iv=.int .i64 k∧hv=v0∧Hid (cO s f k=true)∧Hid (gT B wr v0 (bX s f k))∧Hid (Below B w wr)) (fun _ iv _=>m-(intOf iv).toNat)
 case atStart=>exact ⟨0,_,Nat.zero_le _,rfl,rfl,rfl,h,Below.refl _ _⟩
 case round=>
  obtain ⟨k,hv,hk,rfl,hve,HX,HL,HBW⟩:=hrel
  replace hve:=hve.symm
  subst hve
  clear h
  have hLk:=hL k
  by_cases hlt:k<m
  ·obtain ⟨b,off,rfl,hbb,hc⟩:=(HF.out _ HBW.out).spot (by omega)
   have c0:=hc k hlt
   clear hc
   obtain ⟨d1,d2⟩:=HFF.out k hlt
   have hwr:B<=wr.heap.size:=Nat.le_trans hB HBW.out.size
   have CG:Hid (∀ W,W=wr->Calls Tryz.prog 134 #[hv,.int .i64 (f k)] W fun e w'=>(cO s f (k+1)=true∧∃ v',e=.returned v'∧gT B w' v' (bX s f (k+1))∧Below B W w')∨(cO s f m=false∧e=ck∧Below B W w')):=fun W hW=>by
    subst hW
    rw [mq,jG]
    refine (Jy W HL.out (HFI.out k hk HX.out) d1 d2 (by omega) hwr).mono ?_
    rintro e w' (⟨h1,v',h2,h3,h4⟩ | ⟨h1,h2,h3⟩)
    ·exact .inl ⟨by rw [HX.out,h1]; rfl,v',h2,h3,h4.below hwr⟩
    ·refine .inr ⟨?_,h2,h3.below hwr⟩
     cases hx:cO s f m
     ·rfl
     ·have:=sI (show k+1<=m by omega) hx
      rw [jG,h1,Bool.and_false] at this
      cases this
   generalize f k=fk at *
   have i0:(0:Int)<=(k:Int):=by omega
   have i1:(k:Int)<(m:Int):=by omega
   go_wp2_with fail
   refine (CG.out _ rfl).mono ?_
   rintro _ w1 (⟨h1,v',rfl,h3,h4⟩ | ⟨h1,rfl,h3⟩)
   ·go_wp2
    go_roundw
    case rel=>exact ⟨k+1,_,by omega,by go_num,rfl,h1,h3,HBW.out.trans h4⟩
    case measure=>simp [intOf]; omega
   ·unfold ck
    go_wp2
    exact ⟨rfl,.inr ⟨h1,rfl,HBW.out.trans h3⟩⟩
  ·obtain rfl:k=m:=by omega
   go_wp2
   go_ret
   exact .inl ⟨HX.out,_,rfl,HL.out,HBW.out⟩
def sq (d:Nat->Int) (b:Int):Nat->Int
 | 0=>aq (d 0) b
 | k+1=>ap (aq (d (k+1)) b) (ap (sq d b k) (bm (d (k+1)) b))
def ss (s:Ls) (d:Nat->Int) (b:Int):Nat->Ls
 | 0=>s.add (bm (d 0) b)
 | k+1=>((ss s d b k).add (sL (sq d b k) (bm (d (k+1)) b))).add (fL (aq (d (k+1)) b) (ap (sq d b k) (bm (d (k+1)) b)))
def sx (d:Nat->Int) (b:Int):Nat->Bool
 | 0=>pX (d 0) b
 | k+1=>sx d b k && (pX (d (k+1)) b && (ak (sL (sq d b k) (bm (d (k+1)) b)) && fX (aq (d (k+1)) b) (ap (sq d b k) (bm (d (k+1)) b))))
def vQ (s:Ls) (d:Nat->Int) (b:Int) (n:Nat):Ls:=(ss s d b n).add (sq d b n)
theorem BK (s:Ls) (d:Nat->Int) (b:Int):∀ k,(ss s d b k).n<=s.n+2*k+1
 | 0=>(s.add_le _).2
 | k+1=>by
  have h1:=BK s d b k
  have h2:=((ss s d b k).add_le (sL (sq d b k) (bm (d (k+1)) b))).2
  have h3:=(((ss s d b k).add (sL (sq d b k) (bm (d (k+1)) b))).add_le (fL (aq (d (k+1)) b) (ap (sq d b k) (bm (d (k+1)) b)))).2
  show (((ss s d b k).add _).add _).n<=_
  omega
theorem lY (d:Nat->Int) (b:Int) (k:Nat):sx d b (k+1)=(sx d b k && (pX (d (k+1)) b && (ak (sL (sq d b k) (bm (d (k+1)) b)) && fX (aq (d (k+1)) b) (ap (sq d b k) (bm (d (k+1)) b))))):=rfl
theorem uN (d:Nat->Int) (b:Int) (k:Nat):sq d b (k+1)=ap (aq (d (k+1)) b) (ap (sq d b k) (bm (d (k+1)) b)):=rfl
theorem uO (s:Ls) (d:Nat->Int) (b:Int) (k:Nat):ss s d b (k+1)=((ss s d b k).add (sL (sq d b k) (bm (d (k+1)) b))).add (fL (aq (d (k+1)) b) (ap (sq d b k) (bm (d (k+1)) b))):=rfl
theorem uP {d:Nat->Int} {b:Int}:∀ {k j},j<=k->sx d b k=true->sx d b j=true
 | 0,j,h,hx=>by
  obtain rfl:j=0:=by omega
  exact hx
 | k+1,j,h,hx=>by
  by_cases e:j=k+1
  ·subst e; exact hx
  ·rw [lY,Bool.and_eq_true] at hx
   exact uP (by omega) hx.1
theorem x8 {p q:Int} (hp:aj p) (hq:aj q) (h:pX p q=true):ak (aq p q)=true∧ak (bm p q)=true:=by
 unfold pX at h
 rw [Bool.and_eq_true] at h
 exact ⟨(sH hp hq h.1).2.1,h.1⟩
theorem yb {p q:Int} (hp:aj p) (hq:aj q) (h:fX p q=true):ak (ap p q)=true∧ak (fL p q)=true:=by
 unfold fX at h
 rw [Bool.and_eq_true] at h
 exact ⟨(uJ hp hq h.1).2,h.1⟩
theorem mr {d:Nat->Int} {b:Int} {n:Nat} (hd:∀ i,i<=n->aj (d i)∧ak (d i)=true) (hb:aj b):∀ k,k<=n->sx d b k=true->aj (sq d b k)∧ak (sq d b k)=true
 | 0,_,hx=>⟨aU (hd 0 (by omega)).1 hb,(x8 (hd 0 (by omega)).1 hb hx).1⟩
 | k+1,hk,hx=>by
  rw [lY,Bool.and_eq_true,Bool.and_eq_true,Bool.and_eq_true] at hx
  obtain ⟨h1,h2,h3,h4⟩:=hx
  obtain ⟨r1,r2⟩:=mr hd hb k (by omega) h1
  obtain ⟨d1,d2⟩:=hd (k+1) hk
  have rp:=dU d1 hb
  have rt:=aU d1 hb
  have rs:=aH r1 rp
  rw [uN]
  exact ⟨aH rt rs,(yb rt rs h4).1⟩
theorem yd {p q:Int} (hp:aj p) (hq:aj q) (pp:ak p=true) (pq:ak q=true) (w:World) (H:aD w) :
  Calls Tryz.prog 66 #[.int .i64 p,.int .i64 q] w fun e w'=>e=.returned (.tuple #[.int .i64 (aq p q),.int .i64 (bm p q),.bool (pX p q)])∧Below w.heap.size w w':=by
 have:=rB hp hq w H
 rw [lW pp hp,lW pq hq] at this
 exact this
theorem MB {p q:Int} (hp:aj p) (hq:aj q) (pp:ak p=true) (pq:ak q=true) (w:World) :
  Calls Tryz.prog 133 #[.int .i64 p,.int .i64 q] w fun e w'=>e=.returned (.tuple #[.int .i64 (ap p q),.int .i64 (fL p q),.bool (fX p q)])∧Below w.heap.size w w':=by
 have:=uK hp hq w
 rw [lW pp hp,lW pq hq] at this
 exact this
theorem yi {v:Value} {eo:Option Addr} {ec:Nat} {b:Int} (w:World) :
  Calls Tryz.prog 103 #[v,.slice eo 0 ec,.int .i64 b] w fun e w'=>e=.returned v∧w'=w:=by
 go_enter Tryz.func103,Tryz.ntmps103
 go_wp2
 go_ret
 exact ⟨rfl,rfl⟩
theorem wt {v:Value} {eo:Option Addr} {n ec:Nat} {b:Int} (w:World) (hb:aj b) (h0:rg b=0) (hn:n<=9223372036854775807) :
  Calls Tryz.prog 103 #[v,.slice eo n ec,.int .i64 b] w fun e w'=>e=.returned v∧w'=w:=by
 have hz:=fun W=>lX hb W
 rw [decide_eq_true h0] at hz
 go_enter Tryz.func103,Tryz.ntmps103
 go_wp2_with (go_at_call 130; refine (hz _).mono ?_; rintro _ _ ⟨rfl,rfl⟩)
 all_goals go_ret
 all_goals exact ⟨rfl,rfl⟩
end Go.Proofs.YtcjfonaolcokbaaGreatDoor
