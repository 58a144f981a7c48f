/- Parts of the proof. -/
import Derived.Test.YtcklaogdjpbagaaGreatDoorSa5
import Derived.Test.YtcklaogdjpbagaaGreatDoorSa2
import Derived.Test.YtcklaogdjpbagaaGreatDoorSa4
import Derived.Laws.Externs
import Derived.Test.YtcklaogdjpbagaaGreatDoorSa3
import Derived.Laws.MakeOwn
import Derived.BigQuiet
import Derived.Laws.Rows
import Derived.Laws.Tables
set_option maxRecDepth 100000
set_option maxHeartbeats 8000000
set_option linter.unusedVariables false
set_option linter.unusedSimpArgs false
namespace Go.Proofs.YtcklaogdjpbagaaGreatDoor
open Go Go.Proofs.Tryz Go.RowKit Go.Proofs.YtcklaogdjpbagaaGreatDoor.M
theorem lC {a b c d x X y Y:Int} (y0:0<=c*y) (X0:0<=b*X) (h1:a*x<=b*X) (h2:c*y<=d*Y):(a*c)*(x*y)<=(b*d)*(X*Y):=by
 have e1:(a*c)*(x*y)=(a*x)*(c*y):=by rw[Int.mul_assoc,Int.mul_assoc,Int.mul_left_comm c x y]
 have e2:(b*d)*(X*Y)=(b*X)*(d*Y):=by rw[Int.mul_assoc,Int.mul_assoc,Int.mul_left_comm d X Y]
 rw[e1,e2]
 exact Int.mul_le_mul h1 h2 y0 X0
theorem Aw {F N k c j d K P α β γ δ ρ τ:Int} (F0:0<F) (N0:0<N) (P0:0<=P) (p1:(F*N)*F*α<=(k*d)*P) (p2:F*(F*N)*β<=(c*j)*P) (p3:(F*N)*(F*N)*γ<=(k*j)*P) (p4:F*F*δ<=(c*d)*P)
  (r:N*ρ<=δ) (t:τ<=α+β+γ+ρ) (h:N*(k*d+c*j+c*d)+k*j<=N*F*K):F*(N*τ)<=K*P:=by
 have NF:=Int.mul_pos N0 F0
 refine Int.le_of_mul_le_mul_left (a:=N*F) ?_ NF
 have s:=Int.mul_le_mul_of_nonneg_left t (Int.le_of_lt (Int.mul_pos NF (Int.mul_pos F0 N0)))
 have n:=Int.le_of_lt N0
 have q1:=Int.mul_le_mul_of_nonneg_left p1 n
 have q2:=Int.mul_le_mul_of_nonneg_left p2 n
 have q4:=Int.mul_le_mul_of_nonneg_left p4 n
 have q5:=Int.mul_le_mul_of_nonneg_left r (Int.le_of_lt (Int.mul_pos N0 (Int.mul_pos F0 F0)))
 have q6:=Int.mul_le_mul_of_nonneg_right h P0
 have e0:N*F*(F*(N*τ))=N*F*(F*N)*τ:=by grind
 have e1:N*F*(F*N)*(α+β+γ+ρ)=N*(F*N*F*α)+N*(F*(F*N)*β)+F*N*(F*N)*γ+N*(F*F)*(N*ρ):=by grind
 have e2:(N*(k*d+c*j+c*d)+k*j)*P=N*(k*d*P)+N*(c*j*P)+k*j*P+N*(c*d*P):=by grind
 have e3:N*F*(K*P)=N*F*K*P:=by grind
 have e4:N*(F*F)*δ=N*(F*F*δ):=by grind
 rw[e0,e3]
 rw[e1] at s
 rw[e2] at q6
 rw[e4] at q5
 omega
structure Dv (k c X x Q:Int):Prop where
 q:0<=Q
 d:1152921504606846976*(9007199254740992*((X-x).natAbs:Int))<=k*Q
 s:1152921504606846976*(x.natAbs:Int)<=c*Q
theorem Dv.neg {k c X x Q:Int} (h:Dv k c X x Q):Dv k c (-X) (-x) Q:=by
 obtain⟨q,d,s⟩:=h
 refine⟨q,?_,by rwa [Int.natAbs_neg]⟩
 rw[show -X - -x=-(X-x) by omega,Int.natAbs_neg]
 exact d
theorem Dv.up {k c k' c' X x Q:Int} (h:Dv k c X x Q) (hk:k<=k') (hc:c<=c'):Dv k' c' X x Q :=
 ⟨h.q,Int.le_trans h.d (Int.mul_le_mul_of_nonneg_right hk h.q),Int.le_trans h.s (Int.mul_le_mul_of_nonneg_right hc h.q)⟩
theorem Cy {X x:Int} (u:Un X x):Dv 1152921504606846976 1152921504606846976 X x (x.natAbs:Int):=by
 refine⟨Int.natCast_nonneg _,Int.mul_le_mul_of_nonneg_left ?_ (by decide),Int.le_refl _⟩
 have:=u.2
 have e:((X-x).natAbs:Int)=((x-X).natAbs:Int):=by omega
 rw[e]
 exact this
theorem Bz {F N C m P δ τ:Int} (F0:0<F) (N0:0<N) (P0:0<=P) (p:F*F*δ<=m*P) (r:N*τ<=(N+1)*δ) (h:(N+1)*m<=N*F*C) (N1:0<=N+1):F*τ<=C*P:=by
 refine Int.le_of_mul_le_mul_left (a:=N*F) ?_ (Int.mul_pos N0 F0)
 have q1:=Int.mul_le_mul_of_nonneg_left p N1
 have q2:=Int.mul_le_mul_of_nonneg_left r (Int.le_of_lt (Int.mul_pos F0 F0))
 have q3:=Int.mul_le_mul_of_nonneg_right h P0
 have e1:N*F*(F*τ)=F*F*(N*τ):=by grind
 have e2:F*F*((N+1)*δ)=(N+1)*(F*F*δ):=by grind
 have e3:N*F*(C*P)=N*F*C*P:=by grind
 have e4:(N+1)*(m*P)=(N+1)*m*P:=by grind
 rw[e1,e3]
 rw[e2] at q2
 rw[e4] at q1
 omega
theorem zj {S t:Int} (u:Un S t):9007199254740992*(t.natAbs:Int)<=(9007199254740992+1)*(S.natAbs:Int):=by
 have:=u.1
 omega
theorem zk {X S t:Int} (u:Un S t):((X-t).natAbs:Int)<=((X-S).natAbs:Int)+((t-S).natAbs:Int)∧9007199254740992*((t-S).natAbs:Int)<=(S.natAbs:Int):=⟨by omega,u.1⟩
theorem wD {k c j d K C X x Q Y y R t:Int} (hx:Dv k c X x Q) (hy:Dv j d Y y R) (u:Un (x*y) t)
  (h:9007199254740992*(k*d+c*j+c*d)+k*j<=9007199254740992*1152921504606846976*K) (h2:(9007199254740992+1)*(c*d)<=9007199254740992*1152921504606846976*C):Dv K C (X*Y) t (Q*R):=by
 obtain⟨q0,d1,s1⟩:=hx
 obtain⟨r0,d2,s2⟩:=hy
 have P0:=Int.mul_nonneg q0 r0
 have nn:∀ z:Int,0<=1152921504606846976*(z.natAbs:Int):=fun z=>by omega
 have nn':∀ z:Int,0<=1152921504606846976*(9007199254740992*(z.natAbs:Int)):=fun z=>by omega
 rw[<- Int.mul_assoc] at d1 d2
 have n2:0<=(1152921504606846976*9007199254740992)*((Y-y).natAbs:Int):=by omega
 have p1:=lC (nn y) (Int.le_trans (by omega) d1) d1 s2
 have p2:=lC n2 (Int.le_trans (nn x) s1) s1 d2
 have p3:=lC n2 (Int.le_trans (by omega) d1) d1 d2
 have p4:=lC (nn y) (Int.le_trans (nn x) s1) s1 s2
 rw[<- lY] at p1 p2 p3 p4
 obtain⟨t1,t2⟩:=zk (X:=X*Y) u
 have e:X*Y-x*y=(X-x)*y+x*(Y-y)+(X-x)*(Y-y):=by grind
 have t3:((X*Y-x*y).natAbs:Int)<=(((X-x)*y).natAbs:Int)+((x*(Y-y)).natAbs:Int)+(((X-x)*(Y-y)).natAbs:Int):=by
  rw[e]
  generalize (X-x)*y=a
  generalize x*(Y-y)=b
  generalize (X-x)*(Y-y)=c
  omega
 refine⟨P0,?_,?_⟩
 ·exact Aw (by decide) (by decide) P0 p1 p2 p3 p4 t2 (Int.le_trans t1 (Int.add_le_add_right t3 _)) h
 ·exact Bz (by decide) (by decide) P0 p4 (zj u) h2 (by decide)
theorem ov {k c X x Q Y y R:Int} (hx:Dv k c X x Q) (hy:Dv k c Y y R):Dv k c (X+Y) (x+y) (Q+R):=by
 obtain⟨q0,d1,s1⟩:=hx
 obtain⟨r0,d2,s2⟩:=hy
 refine⟨by omega,?_,?_⟩
 ·rw[Int.mul_add]
  have:((X+Y-(x+y)).natAbs:Int)<=((X-x).natAbs:Int)+((Y-y).natAbs:Int):=by omega
  generalize k*Q=a at *
  generalize k*R=b at *
  omega
 ·rw[Int.mul_add]
  have:((x+y).natAbs:Int)<=(x.natAbs:Int)+(y.natAbs:Int):=by omega
  generalize c*Q=a at *
  generalize c*R=b at *
  omega
theorem wE {k c K C X x Q t:Int} (hx:Dv k c X x Q) (u:Un x t) (h:k+c<=K) (h2:(9007199254740992+1)*c<=9007199254740992*C):Dv K C X t Q:=by
 obtain⟨q0,d1,s1⟩:=hx
 obtain⟨t1,t2⟩:=zk (X:=X) u
 have t3:=zj u
 have a1:=Int.mul_le_mul_of_nonneg_right h q0
 have a2:=Int.mul_le_mul_of_nonneg_right h2 q0
 rw[Int.add_mul] at a1
 rw[Int.mul_assoc,Int.mul_assoc] at a2
 refine⟨q0,?_,?_⟩
 ·generalize k*Q=a at *
  generalize c*Q=b at *
  generalize K*Q=e at *
  omega
 ·generalize c*Q=b at *
  generalize C*Q=e at *
  omega
theorem rl {k c K C X x Q Y y R t:Int} (hx:Dv k c X x Q) (hy:Dv k c Y y R) (u:Un (x+y) t) (h:k+c<=K) (h2:(9007199254740992+1)*c<=9007199254740992*C):Dv K C (X+Y) t (Q+R):=wE (ov hx hy) u h h2
theorem nJ {k c K C X x Q Y y R t:Int} (hx:Dv k c X x Q) (hy:Dv k c Y y R) (u:Un (x-y) t) (h:k+c<=K) (h2:(9007199254740992+1)*c<=9007199254740992*C):Dv K C (X-Y) t (Q+R):=by
 rw[Int.sub_eq_add_neg] at u ⊢
 exact rl hx hy.neg u h h2
theorem jg {X Y u v L:Int} (hu:Un X u) (hv:Un Y v) (hL:Un (u*v) L):Dv 3458764513820541313 1152921504606846976 (X*Y) L (L.natAbs:Int):=by
 have d:=yy hu hv
 have l2:9007199254740992*((u*v).natAbs:Int)<=9007199254740993*(L.natAbs:Int):=by
  have:=hL.2
  omega
 have d3:=Cx (by decide) (by decide) d l2
 have t1:((X*Y-L).natAbs:Int)<=((X*Y-u*v).natAbs:Int)+((L-u*v).natAbs:Int):=by omega
 have t2:=hL.2
 refine⟨Int.natCast_nonneg _,?_,Int.le_refl _⟩
 have d4:10384593717069655257060992658440192*((X*Y-u*v).natAbs:Int)<=2305843009213694337*(L.natAbs:Int):=by
  have:=Int.mul_le_mul_of_nonneg_left d3 (show(0:Int)<=1152921504606846976 by decide)
  clear d d3 l2 t1 t2
  generalize ((X*Y-u*v).natAbs:Int)=α at *
  have l0:=Int.natCast_nonneg L.natAbs
  generalize (L.natAbs:Int)=l at *
  omega
 generalize ((X*Y-u*v).natAbs:Int)=α at *
 generalize ((L-u*v).natAbs:Int)=ρ at *
 generalize ((X*Y-L).natAbs:Int)=τ at *
 generalize (L.natAbs:Int)=l at *
 clear d d3 l2
 omega
structure Sz (g Q S:Int):Prop where
 q:0<=Q
 s:0<=S
 l:1152921504606846976*Q<=g*S
theorem pZ {S t:Int} (u:Un S t) (s:0<=S):0<=t∧9007199254740992*S<=(9007199254740992+1)*t:=by
 have h1:=u.1
 have h2:=u.2
 omega
theorem jW (x:Int):Sz 1152921504606846976 (x.natAbs:Int) (x.natAbs:Int):=⟨Int.natCast_nonneg _,Int.natCast_nonneg _,Int.le_refl _⟩
theorem wF {g h G Q S R T t:Int} (hs:Sz g Q S) (hr:Sz h R T) (u:Un (S*T) t) (c:(9007199254740992+1)*(g*h)<=9007199254740992*1152921504606846976*G) (g0:0<=g*h):Sz G (Q*R) t:=by
 obtain⟨q0,s0,l0⟩:=hs
 obtain⟨q1,s1,l1⟩:=hr
 obtain⟨t0,t1⟩:=pZ u (Int.mul_nonneg s0 s1)
 refine⟨Int.mul_nonneg q0 q1,t0,?_⟩
 have p:=lC (a:=1152921504606846976) (c:=1152921504606846976) (by omega) (Int.le_trans (by omega) l0) l0 l1
 refine Int.le_of_mul_le_mul_left (a:=9007199254740992*1152921504606846976) ?_ (by decide)
 have q1:=Int.mul_le_mul_of_nonneg_left p (show(0:Int)<=9007199254740992 by decide)
 have q2:=Int.mul_le_mul_of_nonneg_left t1 g0
 have q3:=Int.mul_le_mul_of_nonneg_right c t0
 have e1:g*h*((9007199254740992+1)*t)=(9007199254740992+1)*(g*h)*t:=by grind
 have e2:g*h*(9007199254740992*(S*T))=9007199254740992*(g*h*(S*T)):=by grind
 rw[e1,e2] at q2
 rw[Int.mul_assoc (9007199254740992*1152921504606846976) G t] at q3
 generalize g*h*(S*T)=a at *
 generalize (9007199254740992+1)*(g*h)*t=b at *
 generalize Q*R=e at *
 generalize G*t=f at *
 omega
theorem io {g G Q S R T t:Int} (hs:Sz g Q S) (hr:Sz g R T) (u:Un (S+T) t) (c:(9007199254740992+1)*g<=9007199254740992*G) (g0:0<=g):Sz G (Q+R) t:=by
 obtain⟨q0,s0,l0⟩:=hs
 obtain⟨q1,s1,l1⟩:=hr
 obtain⟨t0,t1⟩:=pZ u (by omega)
 refine⟨by omega,t0,?_⟩
 have q2:=Int.mul_le_mul_of_nonneg_left t1 g0
 have q3:=Int.mul_le_mul_of_nonneg_right c t0
 have e1:g*((9007199254740992+1)*t)=(9007199254740992+1)*g*t:=by grind
 have e2:g*(9007199254740992*(S+T))=9007199254740992*(g*S)+9007199254740992*(g*T):=by grind
 rw[e1,e2] at q2
 rw[Int.mul_assoc 9007199254740992 G t] at q3
 generalize g*S=a at *
 generalize g*T=b at *
 generalize (9007199254740992+1)*g*t=e at *
 generalize G*t=f at *
 omega
theorem Ax {F N k g a b S Q Y T M E Z:Int} (F0:0<F) (N0:1<N) (k0:0<=k) (a0:0<a) (S0:0<=S) (Y0:0<=Y) (Q0:0<=Q) (hd:F*(N*Y)<=k*Q) (hs:F*Q<=g*S) (hT:b*S<=a*T) (m:(N-1)*T<=N*M) (h:M<E) (z:(N-1)*E<=N*Z) (c:a*(N*(k*g))<F*(F*((N-1)*((N-1)*b)))) (m0:0<=M):Y<Z:=by
 have N1:0<N-1:=by omega
 have Np:0<N:=by omega
 have a1:=Int.mul_le_mul_of_nonneg_left hd (Int.le_of_lt F0)
 have a2:=Int.mul_le_mul_of_nonneg_left hs k0
 have zp:0<Z:=by
  have:0<(N-1)*E:=Int.mul_pos N1 (by omega)
  apply Int.lt_of_not_ge
  intro h2
  have:=Int.mul_le_mul_of_nonneg_left h2 (Int.le_of_lt Np)
  omega
 rcases Int.lt_or_eq_of_le S0 with s|s
 ·apply Int.lt_of_not_ge
  intro hz
  have b1:=Int.mul_le_mul_of_nonneg_left hT (Int.le_of_lt (Int.mul_pos N1 N1))
  have b2:=Int.mul_le_mul_of_nonneg_left m (Int.le_of_lt (Int.mul_pos N1 a0))
  have b3:=Int.mul_le_mul_of_nonneg_left (Int.le_of_lt h) (Int.le_of_lt (Int.mul_pos (Int.mul_pos N1 a0) Np))
  have b4:=Int.mul_le_mul_of_nonneg_left z (Int.le_of_lt (Int.mul_pos a0 Np))
  have b5:=Int.mul_le_mul_of_nonneg_left hz (Int.le_of_lt (Int.mul_pos (Int.mul_pos a0 Np) Np))
  have e1:(N-1)*(N-1)*(a*T)=(N-1)*a*((N-1)*T):=by grind
  have e2:(N-1)*a*(N*M)=(N-1)*a*N*M:=by grind
  have e3:(N-1)*a*N*E=a*N*((N-1)*E):=by grind
  have e4:a*N*(N*Z)=a*N*N*Z:=by grind
  have b6:(N-1)*(N-1)*(b*S)<=a*N*N*Y:=by omega
  have b7:=Int.mul_le_mul_of_nonneg_left b6 (Int.le_of_lt (Int.mul_pos F0 F0))
  have a3:=Int.mul_le_mul_of_nonneg_left (Int.le_trans a1 (by rw[show F*(k*Q)=k*(F*Q) by grind];exact a2)) (Int.le_of_lt (Int.mul_pos a0 Np))
  have e5:F*F*(a*N*N*Y)=a*N*(F*(F*(N*Y))):=by grind
  have e6:F*F*((N-1)*(N-1)*(b*S))=F*(F*((N-1)*((N-1)*b)))*S:=by grind
  have e7:a*N*(k*(g*S))=a*(N*(k*g))*S:=by grind
  have c2:=Int.mul_lt_mul_of_pos_right c s
  omega
 ·subst s
  have q:F*Q<=0:=by rw[Int.mul_zero] at hs;exact hs
  have q1:Q=0:=by
   rcases Int.lt_or_eq_of_le Q0 with p|p
   ·have:=Int.mul_pos F0 p
    omega
   ·exact p.symm
  subst q1
  rw[Int.mul_zero] at hd
  rcases Int.lt_or_eq_of_le Y0 with p|p
  ·have:=Int.mul_pos F0 (Int.mul_pos Np p)
   omega
  ·omega
theorem tI {k c g a b X Z Q D S T M:Int} (hX:Dv k c X Z Q) (hD:Un Z D) (hS:Sz g Q S) (hT:b*S<=a*T) (uT:Un T M) (h:M<(D.natAbs:Int)) (t0:0<=T)
  (k0:0<=k) (a0:0<a) (cc:a*(9007199254740992*(k*g))<1152921504606846976*(1152921504606846976*((9007199254740992-1)*((9007199254740992-1)*b)))):(0<X↔0<D)∧(X<0↔D<0):=by
 refine DN hD ?_
 exact Ax (F:=1152921504606846976) (N:=9007199254740992) (by decide) (by decide) k0 a0 hS.s (Int.natCast_nonneg _) hS.q hX.d hS.l hT (by have:=Bx uT t0;omega) h (by have:=By hD;omega) cc (pZ uT t0).1
theorem ow {b:Int} (hb:ax b) (w:World) :
  Calls prog 47 #[.int .i64 b] w fun e w'=>e=.returned (.bool (aF b))∧w'=w:=by
 have hb':=hb
 unfold ax at hb'
 have hm:bits .and .i64 (b/4503599627370496) 2047=bZ b:=eP (b/4503599627370496) 11 (by omega)
 go_enter func47,ntmps47
 go_wp2
 go_ret
 exact⟨cC (by unfold aF;by_cases h:bZ b=2047<;>simp[h]),rfl⟩
def q0 (b:Int):Int:=if b=-9223372036854775808 then 0 else b
theorem rm (b:Int) (w:World) :
  Calls prog 81 #[.int .i64 b] w fun e w'=>e=.returned (.int .i64 (q0 b))∧w'=w:=by
 by_cases h:b=-9223372036854775808
 ·subst h
  go_enter func81,ntmps81
  go_wp2
  go_ret
  exact⟨rfl,rfl⟩
 ·have hr:q0 b=b:=by unfold q0;rw[if_neg h]
  go_enter func81,ntmps81
  go_wp2
  go_ret
  exact⟨eD (by first|rfl|exact hr.symm),rfl⟩
theorem wG {b:Int} (hb:ax b) (w:World) :
  Calls prog 86 #[.int .i64 b] w fun e w'=>e=.returned (.int .i64 (bl b))∧w'=w:=by
 unfold ax at hb
 by_cases h:b<0
 ·have hr:bl b=-(b+9223372036854775808):=by unfold bl;rw[if_pos h]
  go_enter func86,ntmps86
  go_wp2
  go_ret
  exact⟨eD (by first|rfl|omega|(rw[hr];omega)),rfl⟩
 ·have hr:bl b=b:=by unfold bl;rw[if_neg h]
  go_enter func86,ntmps86
  go_wp2
  go_ret
  exact⟨eD (by first|rfl|exact hr.symm),rfl⟩
theorem Cz {b:Int} (hb:ax b):q0 b=0↔rg b=0:=by
 unfold ax at hb;unfold q0 rg
 repeat' split
 all_goals omega
theorem wH {b:Int} (hb:ax b) (w:World) :
  Calls prog 51 #[.int .i64 b] w fun e w'=>e=.returned (.bool (bv b))∧w'=w:=by
 have ht:=mM hb
 have hz:=Cz hb
 have hf:=iX b
 have hm:bits .and .i64 (b/4503599627370496) 2047=bZ b:=eP (b/4503599627370496) 11 (by omega)
 have hb':=hb
 unfold ax at hb'
 generalize bZ b=f at *
 by_cases h0:q0 b=0
 ·rw[decide_eq_true (hz.1 h0),Bool.true_or] at ht
  go_enter func51,ntmps51
  go_wp2_with (go_at_call 81;refine(rm _ _).mono ?_;rintro _ _ ⟨rfl,rfl⟩)
  go_ret
  exact⟨cC (by first|rfl|exact ht.symm|(rw[ht];simp;omega)|(simp;omega)),rfl⟩
 ·rw[decide_eq_false (fun h=>h0 (hz.2 h)),Bool.false_or] at ht
  by_cases h1:873<=f
  ·by_cases h2:f<1173
   all_goals
    simp[h1,h2] at ht
    go_enter func51,ntmps51
    go_wp2_with (go_at_call 81;refine(rm _ _).mono ?_;rintro _ _ ⟨rfl,rfl⟩)
    go_ret
    exact⟨cC (by first|rfl|exact ht.symm|(rw[ht];simp;omega)|(simp;omega)),rfl⟩
  ·simp[h1] at ht
   go_enter func51,ntmps51
   go_wp2_with (go_at_call 81;refine(rm _ _).mono ?_;rintro _ _ ⟨rfl,rfl⟩)
   go_ret
   exact⟨cC (by first|rfl|exact ht.symm|(rw[ht];simp;omega)|(simp;omega)),rfl⟩
def br (f:Nat->Bool) (n:Nat):Bool:=decide (∀ i,i<n->f i=true)
def l2 (a b:Int) (i:Nat):Int:=if i=0 then a else b
def l3 (a b c:Int) (i:Nat):Int:=if i=0 then a else if i=1 then b else c
structure Fx (a b:Nat) (x:Int):Prop where
 r:ax x
 p:aF x=true
 d:(2^a:Int) ∣ iV x
 b:((iV x).natAbs:Int)<=2^b
theorem Mz.fx {x:Int} (h:Mz x):Fx 872 1224 x:=⟨h.1,h.2.1,h.2.2.1,h.2.2.2⟩
theorem Fx.up {a b b':Nat} {x:Int} (h:Fx a b x) (c:b<=b'):Fx a b' x:=⟨h.r,h.p,h.d,Cw h.b c⟩
theorem Fx.neg {a b:Nat} {x:Int} (h:Fx a b x):Fx a b (neg x)∧iV (neg x)=-iV x:=by
 obtain⟨n1,n2,n3⟩:=gz h.r h.p
 refine⟨⟨n1,n2,?_,?_⟩,n3⟩
 ·rw[n3];exact Int.dvd_neg.2 h.d
 ·rw[n3,Int.natAbs_neg];exact h.b
theorem zl {S x:Int} (h:Un S x):(x.natAbs:Int)<=2*(S.natAbs:Int):=by
 have:=h.1
 omega
theorem qb {a b m:Int} {k:Nat} (h1:a<=2^k) (hk:k+1<=2097) (hm:(2:Int)^2097<=m):2*a<=m:=by
 have e:=iE k
 have f:(2:Int)^(k+1)<=2^2097:=mJ hk
 omega
theorem Fx.sum {a b:Nat} {x y:Int} (hx:Fx a b x) (hy:Fx a b y) (hb:b+1<=2097):Fx a (b+2) (aE x y)∧Un (iV x+iV y) (iV (aE x y)):=by
 obtain⟨f1,f2⟩:=ou hx.r hy.r hx.p hy.p (qb (b:=0) hx.b hb hH) (qb (b:=0) hy.b hb hH)
 have nr:=tH hx.r hy.r f2
 have u:=zi nr
 refine⟨⟨bk hx.r hy.r,f1,nF nr (Int.dvd_add hx.d hy.d),?_⟩,u⟩
 have h2:=zl u
 have e1:=hx.b
 have e2:=hy.b
 rw[show b+2=b+1+1 by omega,iE,iE]
 omega
theorem CH {x y:Int} {b d:Nat} (h1:(x.natAbs:Int)<=2^b) (h2:(y.natAbs:Int)<=2^d):((x*y).natAbs:Int)<=2^(b+d):=by
 have:=uu h1 h2
 rwa [<- Int.pow_add] at this
theorem Fx.prod {a b c d:Nat} {x y:Int} (hx:Fx a b x) (hy:Fx c d y) (h1:1074<=a+c) (h2:1074<=b+d) (h3:b+d-1074<=2097) :
  Fx (a+c-1074) (b+d-1074+1) (av x y)∧Un (iV x*iV y) (2^1074*iV (av x y))∧∃ T,2^1074*T=iV x*iV y∧Un T (iV (av x y)):=by
 have dd:(2^(a+c):Int) ∣ iV x*iV y:=by
  rw[Int.pow_add]
  exact Int.mul_dvd_mul hx.d hy.d
 obtain⟨k,hk⟩:=dd
 have e0:(2:Int)^(a+c)=2^1074*2^(a+c-1074):=by rw[<- Int.pow_add,show 1074+(a+c-1074)=a+c by omega]
 have hT:2^1074*(2^(a+c-1074)*k)=iV x*iV y:=by rw[hk,e0,Int.mul_assoc]
 have b1:=CH hx.b hy.b
 rw[<- hT,oZ,show b+d=1074+(b+d-1074) by omega,Int.pow_add] at b1
 have b2:(((2^(a+c-1074)*k:Int)).natAbs:Int)<=2^(b+d-1074):=Int.le_of_mul_le_mul_left b1 (p2 1074)
 have s:=ri hx.r hy.r hx.p hy.p hT
 have f:aF (av x y)=true:=s.fin (Int.le_trans b2 (Int.le_trans (mJ h3) hH))
 have nr:=s.nr f
 have u:=zi nr
 refine⟨⟨aH hx.r hy.r,f,nF nr ⟨k,rfl⟩,?_⟩,?_,_,hT,u⟩
 ·have:=zl u
  rw[iE]
  omega
 ·rw[<- hT]
  exact u.scale (Int.le_of_lt (p2 1074))
theorem uw {x:Int} (h:ax x):rg (rg x)=rg x:=by unfold ax rg at *;split<;>(try split)<;>omega
theorem Fx.abs {a b:Nat} {x:Int} (h:Fx a b x):Fx a b (rg x)∧iV (rg x)=((iV x).natAbs:Int):=by
 obtain⟨q1,q2⟩:=bX h.r
 have e:iV (rg x)=((iV x).natAbs:Int):=by
  rw[jU,iV,decide_eq_false (by omega),uw h.r]
  rfl
 refine⟨⟨q1,?_,?_,?_⟩,e⟩
 ·rw[ot q1,uw h.r,<- ot h.r];exact h.p
 ·rw[e];exact Int.dvd_natAbs.2 h.d
 ·rw[e,Int.natAbs_natCast];exact h.b
theorem Mz.diff {p q:Int} (hp:Mz p) (hq:Mz q):Fx 872 1226 (aE p (neg q))∧Un (iV p-iV q) (iV (aE p (neg q))):=by
 obtain⟨n,ne⟩:=hq.fx.neg
 obtain⟨s,su⟩:=hp.fx.sum n (by decide)
 rw[ne] at su
 exact⟨s,su⟩
theorem Ay {p m:Int} {n:Nat} (hr:ax p) (hp:aF p=true) (h0:0<=p) (hm:bL p=m*4) (he:bM p+1074=n) (m0:0<=m):iV p=m*2^(n+2):=by
 have e:=jV hr hp
 rw[hm,he,Int.toNat_natCast] at e
 have s:0<=iV p:=by
  rw[iV,decide_eq_false (by omega)]
  exact Int.natCast_nonneg _
 rw[show n+2=n+1+1 by omega,iE,iE]
 have q:=p2 n
 have:m*(2*(2*2^n))=m*4*2^n:=by rw[<- Int.mul_assoc 2 2,<- Int.mul_assoc,show(2:Int)*2=4 from rfl]
 omega
theorem ir {S:Int} {q:Int} (hq:0<=q):((q*S).natAbs:Int)=q*(S.natAbs:Int):=by
 rw[lY]
 congr 1
 omega
theorem ro {q x:Int} (hq:0<q):(0<q*x↔0<x)∧(q*x<0↔x<0):=by
 rcases Int.lt_trichotomy x 0 with h|h|h
 ·have:q*x<0:=Int.mul_neg_of_pos_of_neg hq h
  omega
 ·rw[h,Int.mul_zero]
  exact⟨Iff.rfl,Iff.rfl⟩
 ·have:0<q*x:=Int.mul_pos hq h
  omega
end Go.Proofs.YtcklaogdjpbagaaGreatDoor
namespace Go.Proofs.YtcklaogdjpbagaaGreatDoor
open Go Go.Proofs.Tryz Go.RowKit Go.Proofs.YtcklaogdjpbagaaGreatDoor.M Ieee
end Go.Proofs.YtcklaogdjpbagaaGreatDoor
namespace Go.Proofs.YtcklaogdjpbagaaGreatDoor.M
open Go Go.Proofs.Tryz Ieee
end Go.Proofs.YtcklaogdjpbagaaGreatDoor.M
namespace Go.Proofs.YtcklaogdjpbagaaGreatDoor
open Go Go.Proofs.Tryz Go.RowKit Go.Proofs.YtcklaogdjpbagaaGreatDoor.M
theorem aj {w w':World} {p:Addr} {v:Value} (h:w.cell? p=some v) (hb:Below w.heap.size w w'):w'.cell? p=some v :=
 (hb.cell (World.block_lt_of_cell? w _ h)).trans h
theorem CU (a:Int):Fl (iV a):=by
 unfold iV
 cases decide (a<0)
 ·exact oq _
 ·exact(oq _).neg
theorem yz {P:Program} (t:TypeId) {p q:Int} {x y:Nat} (hx:FW p x) (hy:FW q y) (h:aR (aE p q)≠4) (w:World) :
  (binOp .add t (.float .f64 x) (.float .f64 y)).run P w=.ok (.float .f64 (wd (aE p q))) w:=by
 obtain⟨z,w',hr,hz⟩:=kA (P:=P) .add (.inl rfl) t x y w
 have hf:floatBits .add .f64 x y=Ieee.double.add x y:=rfl
 rw[hf] at hz
 rcases qR hx hy with⟨z',e1,e2⟩|⟨e1,e2⟩
 ·rcases hz with⟨h1,h2⟩|⟨h1,_⟩
  ·rw[e1] at h1;cases h1
   rw[hr,h2,(e2.of h).2.1]
  ·rw[e1] at h1;cases h1
 ·exact absurd (by rw[e2];exact jB) h
theorem pj {P:Program} (t:TypeId) {p q:Int} {x y:Nat} (hx:FW p x) (hy:FW q y) (h:aR (aE p (neg q))≠4) (w:World) :
  (binOp .sub t (.float .f64 x) (.float .f64 y)).run P w=.ok (.float .f64 (wd (aE p (neg q)))) w:=by
 obtain⟨z,w',hr,hz⟩:=kA (P:=P) .sub (.inr (.inl rfl)) t x y w
 have hf:floatBits .sub .f64 x y=Ieee.double.sub x y:=rfl
 rw[hf] at hz
 rcases Bp hx hy with⟨z',e1,e2⟩|⟨e1,e2⟩
 ·rcases hz with⟨h1,h2⟩|⟨h1,_⟩
  ·rw[e1] at h1;cases h1
   rw[hr,h2,(e2.of h).2.1]
  ·rw[e1] at h1;cases h1
 ·exact absurd (by rw[e2];exact jB) h
theorem kG {r:Nat}:(V Ieee.double r:Int)=0↔r=0:=by
 constructor
 ·intro h
  by_cases h0:r=0
  ·exact h0
  ·have:=iA Ieee.double (show 0<r by omega)
   rw[kX] at this
   omega
 ·rintro rfl
  rw[kX]
  rfl
theorem rt {p:Int} (hp:ax p):(iV p<0↔bl p<0)∧(0<iV p↔0<bl p):=by
 have hz:=@kG (rg p).toNat
 have hr:=bX hp
 unfold ax at hp
 have hv:(0:Int)<=(V Ieee.double (rg p).toNat:Int):=by omega
 by_cases h:p<0
 ·have e1:iV p=-(V Ieee.double (rg p).toNat:Int):=by unfold iV sg;simp[h]
  have e2:bl p=-(rg p):=by unfold bl rg;rw[if_pos h,if_pos h]
  rw[e1,e2]
  constructor<;>constructor<;>intro g<;>omega
 ·have e1:iV p=(V Ieee.double (rg p).toNat:Int):=by unfold iV sg;simp[h]
  have e2:bl p=rg p:=by unfold bl rg;rw[if_neg h,if_neg h]
  rw[e1,e2]
  constructor<;>constructor<;>intro g<;>omega
theorem tJ {p q:Int} (hp:ax p) (hq:ax q) (h:bl p<bl q):iV p<iV q:=by
 have rp:=bX hp
 have rq:=bX hq
 have ep:iV p=if p<0 then -(V Ieee.double (rg p).toNat:Int) else (V Ieee.double (rg p).toNat:Int):=by unfold iV sg;by_cases g:p<0<;>simp[g]
 have eq':iV q=if q<0 then -(V Ieee.double (rg q).toNat:Int) else (V Ieee.double (rg q).toNat:Int):=by unfold iV sg;by_cases g:q<0<;>simp[g]
 have kp:bl p=if p<0 then -(rg p) else rg p:=by unfold bl rg;by_cases g:p<0<;>simp[g]
 have kq:bl q=if q<0 then -(rg q) else rg q:=by unfold bl rg;by_cases g:q<0<;>simp[g]
 have zp:=@kG (rg p).toNat
 have zq:=@kG (rg q).toNat
 have m1:rg p<rg q->(V Ieee.double (rg p).toNat:Int)<V Ieee.double (rg q).toNat:=fun g=>by
  have:=iA Ieee.double (show(rg p).toNat<(rg q).toNat by omega)
  omega
 have m2:rg q<rg p->(V Ieee.double (rg q).toNat:Int)<V Ieee.double (rg p).toNat:=fun g=>by
  have:=iA Ieee.double (show(rg q).toNat<(rg p).toNat by omega)
  omega
 rw[kp,kq] at h
 rw[ep,eq']
 have hA0:(0:Int)<=(V Ieee.double (rg p).toNat:Int):=by omega
 have hB0:(0:Int)<=(V Ieee.double (rg q).toNat:Int):=by omega
 clear ep eq' kp kq
 generalize (V Ieee.double (rg p).toNat:Int)=A at *
 generalize (V Ieee.double (rg q).toNat:Int)=B at *
 by_cases a:p<0<;>by_cases b:q<0<;>simp only[a,b,if_true,if_false] at h ⊢<;>omega
end Go.Proofs.YtcklaogdjpbagaaGreatDoor
namespace Go.Proofs.YtcklaogdjpbagaaGreatDoor
open Go Go.Proofs.Tryz Go.RowKit Go.Proofs.YtcklaogdjpbagaaGreatDoor.M Ieee
end Go.Proofs.YtcklaogdjpbagaaGreatDoor
namespace Go.Proofs.YtcklaogdjpbagaaGreatDoor
open Go Go.Proofs.Tryz Go.RowKit Go.Proofs.YtcklaogdjpbagaaGreatDoor.M
def lD (w:World) (g N k:Nat) (q:Nat->aI):Prop :=
 ∃ cur:Array Value,w.heap[g]?=some (.cells cur 33 (0,0))∧cur.size=N*3∧∀ i,i<k->(cur[i*3]?=some (.bool (q i).ng)∧cur[i*3+1]?=some (.slice (q i).ao (q i).n (q i).cap)∧cur[i*3+2]?=some (.int .i64 (q i).e))∧aS w (q i).ao (q i).n (q i).cap (q i).d
theorem yA:∃ i,prog.info? 33=some i∧i.zero=some (.agg #[.bool false,.slice none 0 0,.int .i64 0])∧i.size=3∧i.bytes=40:=by
 have h:(prog.info? 33).map (fun i=>(i.zero,i.size,i.bytes))=some (some (.agg #[.bool false,.slice none 0 0,.int .i64 0]),3,40):=by kernel_rfl
 obtain⟨i,hi,hzz⟩:=Option.map_eq_some_iff.1 h
 simp only[Prod.mk.injEq] at hzz
 exact⟨i,hi,hzz⟩
theorem wI (n:Nat) (hn:n<=100000) (w:World) :
  (Instr.makeSlice 128 (.int .i64 (n:Int)) (.int .i64 (n:Int))).run prog w=.ok (.slice (some ⟨w.heap.size,0,none⟩) n n) (w.alloc (.cells (madeCells #[.bool false,.slice none 0 0,.int .i64 0] (n*3)) 33)):=by
 obtain⟨i,hi,hz,hs,hb⟩:=yA
 have:=run_make (P:=prog) w 128 33 i _ underlying128 hi hz .i64 .i64 n n (by omega) (Int.le_refl _) (by rw[hb];omega) (by omega)
 simp only[Int.toNat_natCast,hs] at this
 exact this
def oz (q:Nat->aI) (k:Nat) (x:aI):Nat->aI:=fun j=>if j=k then x else q j
theorem lE (q:Nat->aI) (k:Nat) (x:aI):oz q k x k=x:=by simp[oz]
theorem kH (q:Nat->aI) {k j:Nat} (x:aI) (h:j≠k):oz q k x j=q j:=by simp[oz,h]
theorem wJ {W w':World} {b g o0 o1 o2:Nat} {x y z:Value} (h:W.cell? ⟨b,o0,none⟩=some x∧W.cell? ⟨b,o1,none⟩=some y∧W.cell? ⟨b,o2,none⟩=some z) (hw:Wr g W w') (hg:b≠g) :
  w'.cell? ⟨b,o0,none⟩=some x∧w'.cell? ⟨b,o1,none⟩=some y∧w'.cell? ⟨b,o2,none⟩=some z :=
 ⟨(hw.cell (World.block_lt_of_cell? W _ h.1) hg).trans h.1,(hw.cell (World.block_lt_of_cell? W _ h.2.1) hg).trans h.2.1,(hw.cell (World.block_lt_of_cell? W _ h.2.2) hg).trans h.2.2⟩
theorem wK {W w':World} {b o0 o1 o2:Nat} {x y z:Value} (h:W.cell? ⟨b,o0,none⟩=some x∧W.cell? ⟨b,o1,none⟩=some y∧W.cell? ⟨b,o2,none⟩=some z) (hb:Below W.heap.size W w') :
  w'.cell? ⟨b,o0,none⟩=some x∧w'.cell? ⟨b,o1,none⟩=some y∧w'.cell? ⟨b,o2,none⟩=some z:=⟨aX h.1 hb,aX h.2.1 hb,aX h.2.2 hb⟩
theorem pk (W:World) (g o0 o1 o2:Nat) (x y z:Value):Wr g W (((W.setCell ⟨g,o0,none⟩ x).setCell ⟨g,o1,none⟩ y).setCell ⟨g,o2,none⟩ z):=(((Wr.refl g W).setCell o0 x).setCell o1 y).setCell o2 z
theorem aS.wrN {w w':World} {g:Nat} {ao:Option Addr} {n cap:Nat} {d:Nat->Int} (h:aS w ao n cap d) (hw:Wr g w w') {cur:Array Value} {z:Nat × Nat} (hg:w.heap[g]?=some (.cells cur 33 z)) (ht:∀ b off,ao=some ⟨b,off,none⟩->0<n->b≠g):aS w' ao n cap d :=
  ⟨h.le,h.max,h.nl,fun hn=>by
    obtain⟨b,off,rfl,hlt,hc⟩:=h.spot hn
    exact ⟨b,off,rfl,Nat.lt_of_lt_of_le hlt hw.size,fun i hi=>(hw.cell (p:=⟨b,off+i,none⟩) hlt (ht b off rfl hn)).trans (hc i hi)⟩⟩
theorem cN.open {w w':World} {V:Int} {so:Option Addr} {sn sc:Nat} (h:cN w w' V (.slice so sn sc)):∃ d,aS w' so sn sc d∧cf d sn∧val d sn=V∧∀ b off,so=some ⟨b,off,none⟩->w.heap.size<=b:=by
 obtain⟨t,d,hO,hN,hV,_⟩:=h
 have hge:=dS hO
 obtain⟨so',sc',e,hR⟩:=hO.row
 simp only[Value.slice.injEq] at e
 obtain⟨rfl,rfl,rfl⟩:=e
 exact⟨d,hR,hN,hV,fun b off hb=>hge b (by rw[hb];rfl)⟩
theorem aU {w0 w:World} {g o0 o1 o2:Nat} (h:Below w0.heap.size w0 w) (hg:w0.heap.size<=g) (x y z:Value):Below w0.heap.size w0 (((w.setCell ⟨g,o0,none⟩ x).setCell ⟨g,o1,none⟩ y).setCell ⟨g,o2,none⟩ z):=((h.setCell (p:=⟨g,o0,none⟩) hg x).setCell (p:=⟨g,o1,none⟩) hg y).setCell (p:=⟨g,o2,none⟩) hg z
theorem yB {cur:Array Value} {k:Nat} {x y z:Value} (h:k*3+2<cur.size) (i:Nat) :
  let c:=((cur.setIfInBounds (k*3) x).setIfInBounds (k*3+1) y).setIfInBounds (k*3+2) z
  (i=k->c[i*3]?=some x∧c[i*3+1]?=some y∧c[i*3+2]?=some z)∧(i≠k->c[i*3]?=cur[i*3]?∧c[i*3+1]?=cur[i*3+1]?∧c[i*3+2]?=cur[i*3+2]?):=by
 intro c
 refine⟨fun e=>?_,fun e=>?_⟩
 ·subst e
  refine⟨?_,?_,?_⟩
  ·show(((cur.setIfInBounds (i*3) x).setIfInBounds (i*3+1) y).setIfInBounds (i*3+2) z)[i*3]?=some x
   rw[Array.getElem?_setIfInBounds_ne (by omega),Array.getElem?_setIfInBounds_ne (by omega),Array.getElem?_setIfInBounds_self_of_lt (by omega)]
  ·show(((cur.setIfInBounds (i*3) x).setIfInBounds (i*3+1) y).setIfInBounds (i*3+2) z)[i*3+1]?=some y
   rw[Array.getElem?_setIfInBounds_ne (by omega),Array.getElem?_setIfInBounds_self_of_lt (by simp;omega)]
  ·show(((cur.setIfInBounds (i*3) x).setIfInBounds (i*3+1) y).setIfInBounds (i*3+2) z)[i*3+2]?=some z
   rw[Array.getElem?_setIfInBounds_self_of_lt (by simp;omega)]
 ·refine⟨?_,?_,?_⟩
  all_goals
   show(((cur.setIfInBounds (k*3) x).setIfInBounds (k*3+1) y).setIfInBounds (k*3+2) z)[_]?=_
   rw[Array.getElem?_setIfInBounds_ne (by omega),Array.getElem?_setIfInBounds_ne (by omega),Array.getElem?_setIfInBounds_ne (by omega)]
theorem lD.step {wr w3:World} {g N k:Nat} {q:Nat->aI} (h:lD wr g N k q) (hb:Below wr.heap.size wr w3) (x:aI) (hx:aS w3 x.ao x.n x.cap x.d) (hk:k<N) (hg:∀ i b' off,i<k->(q i).ao=some ⟨b',off,none⟩->0<(q i).n->g<b') (hg2:∀ b' off,x.ao=some ⟨b',off,none⟩->0<x.n->g<b') :
  lD (((w3.setCell ⟨g,k*3,none⟩ (.bool x.ng)).setCell ⟨g,k*3+1,none⟩ (.slice x.ao x.n x.cap)).setCell ⟨g,k*3+2,none⟩ (.int .i64 x.e)) g N (k+1) (oz q k x):=by
 obtain⟨cur,hcur,hsz,hc⟩:=h
 have q0:=(hb.block g (aGe hcur).1).trans hcur
 have q1:=aq (aq (aq q0 (k*3) (.bool x.ng)) (k*3+1) (.slice x.ao x.n x.cap)) (k*3+2) (.int .i64 x.e)
 have hw:=pk w3 g (k*3) (k*3+1) (k*3+2) (.bool x.ng) (.slice x.ao x.n x.cap) (.int .i64 x.e)
 refine⟨_,q1,by simp[hsz],fun i hi=>?_⟩
 have hs:=yB (cur:=cur) (k:=k) (x:=.bool x.ng) (y:=.slice x.ao x.n x.cap) (z:=.int .i64 x.e) (by omega) i
 by_cases e:i=k
 ·subst e
  rw[lE]
  exact⟨hs.1 rfl,hx.wrN hw q0 fun b' off he hn=>by have:=hg2 b' off he hn;omega⟩
 ·rw[kH q x e]
  obtain⟨s0,s1,s2⟩:=hs.2 e
  obtain⟨⟨c0,c1,c2⟩,hR⟩:=hc i (by omega)
  refine⟨⟨s0.trans c0,s1.trans c1,s2.trans c2⟩,(hR.keeps hb).wrN hw q0 fun b' off he hn=>?_⟩
  have:=hg i b' off (by omega) he hn
  omega
theorem lD.nums {w:World} {g N:Nat} {q:Nat->aI} (h:lD w g N N q) (hN:N<=100000):fG w (some ⟨g,0,none⟩) N N q:=by
 obtain⟨cur,hcur,hsz,hc⟩:=h
 refine⟨Nat.le_refl _,by omega,fun _=>⟨g,0,rfl,(aGe hcur).1,fun i hi=>?_⟩⟩
 obtain⟨⟨c0,c1,c2⟩,hR⟩:=hc i hi
 rw[Nat.zero_add]
 exact⟨af hcur _ c0,af hcur _ c1,af hcur _ c2,hR⟩
theorem ry (ao bo:Option Addr) (n ca cb:Nat) (a b:Nat->aI) (w:World) (ha:fG w ao n ca a) (hb:fG w bo n cb b) (hn:n<=100000) (sa:∀ i,i<n->dR (a i)) (sb:∀ i,i<n->dR (b i)) :
  Calls prog 137 #[.slice ao n ca,.slice bo n cb] w fun x w'=>∃ g q,x=.returned (.slice (some ⟨g,0,none⟩) n n)∧w.heap.size<=g∧fG w' (some ⟨g,0,none⟩) n n q∧Below w.heap.size w w'∧∀ i,i<n->cf (q i).d (q i).n∧(q i).ng=((a i).ng != (b i).ng)∧val (q i).d (q i).n=val (a i).d (a i).n*val (b i).d (b i).n∧(q i).e=(a i).e+(b i).e:=by
 have hla:=ha.le
 have hma:=ha.max
 have hlb:=hb.le
 have hmb:=hb.max
 have hmake:=wI n hn
 go_enter func137,ntmps137
 go_wp2_with fail
 have hb0:=ah w (.cells (madeCells #[.bool false,.slice none 0 0,.int .i64 0] (n*3)) 33)
 have g0:=aA w (.cells (madeCells #[.bool false,.slice none 0 0,.int .i64 0] (n*3)) 33)
 have HB0:Hid (lD (w.alloc (.cells (madeCells #[.bool false,.slice none 0 0,.int .i64 0] (n*3)) 33)) w.heap.size n 0 a):=⟨_,g0,by rw[size_madeCells],fun i hi=>by omega⟩
 clear g0 hmake
 generalize w.alloc (.cells (madeCells #[.bool false,.slice none 0 0,.int .i64 0] (n*3)) 33)=wx at hb0 HB0 ⊢
 go_loopw [12] (fun iv wr=>∃ (k:Nat) (q:Nat->aI),k<=n∧iv=.int .i64 k∧Hid (lD wr w.heap.size n k q)∧Hid (∀ i,i<k->cf (q i).d (q i).n∧(q i).ng=((a i).ng != (b i).ng)∧val (q i).d (q i).n=val (a i).d (a i).n*val (b i).d (b i).n∧(q i).e=(a i).e+(b i).e)∧Hid (∀ i b' off,i<k->(q i).ao=some ⟨b',off,none⟩->0<(q i).n->w.heap.size<b')∧Below w.heap.size w wr) (fun iv _=>n-(intOf iv).toNat)
 case atStart=>exact⟨0,a,Nat.zero_le _,rfl,HB0,fun i hi=>by omega,fun i b' off hi=>by omega,hb0⟩
 case round=>
  obtain⟨k,q,hk,rfl,HQ,HF,HG,hbw⟩:=hrel
  clear HB0 hb0
  by_cases hlt:k<n
  ·obtain⟨ba,oa,rfl,hba,hca⟩:=ha.spot (by omega)
   obtain⟨bb,ob,rfl,hbb,hcb⟩:=hb.spot (by omega)
   obtain⟨c0,c1,c2,ra⟩:=(hca k hlt).keeps hbw hba
   obtain⟨d0,d1,d2,rb⟩:=(hcb k hlt).keeps hbw hbb
   have CP:=fun W (h:Below wr.heap.size wr W)=>qH (a k) (b k) W (ra.keeps h) (rb.keeps h) (sa k hlt) (sb k hlt)
   have hea:Hid (-1100000<=(a k).e∧(a k).e<=1100000):=(sa k hlt).2.2
   have heb:Hid (-1100000<=(b k).e∧(b k).e<=1100000):=(sb k hlt).2.2
   have HAK:Hid (∀ x,a k=x->a k=x):=fun _ h=>h
   clear hca hcb ra rb
   obtain⟨xa,hxa⟩:∃ x,a k=x:=⟨_,rfl⟩
   obtain⟨xb,hxb⟩:∃ x,b k=x:=⟨_,rfl⟩
   rw[hxa] at c0 c1 c2 CP hea
   rw[hxb] at d0 d1 d2 CP heb
   have HXA:Hid (a k=xa):=hxa
   have HXB:Hid (b k=xb):=hxb
   clear hxa hxb HAK
   unfold aI.v at CP
   obtain⟨ag,aao,an,aca,ad,ae⟩:=xa
   obtain⟨bg,bao,bn,bca,bd,be⟩:=xb
   simp only at c0 c1 c2 d0 d1 d2 CP hea heb
   obtain⟨cur,hcur,hsz,hcells⟩:=HQ.out
   have HCL:Hid _:=hcells
   have e0:k*3<cur.size:=by omega
   have e1:k*3+1<cur.size:=by omega
   have e2:k*3+2<cur.size:=by omega
   obtain⟨v0,hv0⟩:∃ v,cur[k*3]?=some v:=⟨_,Array.getElem?_eq_getElem e0⟩
   obtain⟨v1,hv1⟩:∃ v,cur[k*3+1]?=some v:=⟨_,Array.getElem?_eq_getElem e1⟩
   obtain⟨v2,hv2⟩:∃ v,cur[k*3+2]?=some v:=⟨_,Array.getElem?_eq_getElem e2⟩
   have HV:Hid (cur[k*3]?=some v0∧cur[k*3+1]?=some v1∧cur[k*3+2]?=some v2):=⟨hv0,hv1,hv2⟩
   have HSZ:Hid (cur.size=n*3):=hsz
   have HCUR:Hid (wr.heap[w.heap.size]?=some (.cells cur 33 (0,0))):=hcur
   have hgs:w.heap.size<wr.heap.size:=(aGe hcur).1
   clear hcells hv0 hv1 hv2 hcur hsz e0 e1 e2
   have i0:(0:Int)<=(k:Int):=by omega
   have i1:(k:Int)<(n:Int):=by omega
   have kc0:(wr.drew.cell? ⟨ba,oa+k*3,none⟩=some (.bool ag)∧wr.drew.cell? ⟨ba,oa+k*3+1,none⟩=some (.slice aao an aca)∧wr.drew.cell? ⟨ba,oa+k*3+2,none⟩=some (.int .i64 ae))∧wr.drew.cell? ⟨bb,ob+k*3,none⟩=some (.bool bg)∧wr.drew.cell? ⟨bb,ob+k*3+1,none⟩=some (.slice bao bn bca)∧wr.drew.cell? ⟨bb,ob+k*3+2,none⟩=some (.int .i64 be):=⟨⟨c0,c1,c2⟩,d0,d1,d2⟩
   have hb1:=al wr
   go_wp2_with fail
   go_region_held3 (fun W=>(W.cell? ⟨ba,oa+k*3,none⟩=some (.bool ag)∧W.cell? ⟨ba,oa+k*3+1,none⟩=some (.slice aao an aca)∧W.cell? ⟨ba,oa+k*3+2,none⟩=some (.int .i64 ae))∧W.cell? ⟨bb,ob+k*3,none⟩=some (.bool bg)∧W.cell? ⟨bb,ob+k*3+1,none⟩=some (.slice bao bn bca)∧W.cell? ⟨bb,ob+k*3+2,none⟩=some (.int .i64 be))
    (first|assumption|exact⟨wJ kc1.1 (pk _ _ _ _ _ _ _ _) (by omega),wJ kc1.2 (pk _ _ _ _ _ _ _ _) (by omega)⟩)
    ((go_at_call 155;refine(CP _ hb1.drew).mono ?_;rintro y w3 ⟨s,rfl,hA⟩;have hbv1:=hA.below;have kc1:=And.intro (wK kc0.1 hbv1) (wK kc0.2 hbv1);obtain⟨so,sn,sc,rfl⟩:=hA.num.shape;have q0:=(hbv1.block w.heap.size hgs).trans HCUR.out;have x0:=af q0 (k*3) HV.out.1;have x1:=af q0 (k*3+1) HV.out.2.1;have x2:=af q0 (k*3+2) HV.out.2.2;have z0:=ar q0 (k*3);have z1:=ar q0 (k*3+1);have z2:=ar q0 (k*3+2)))
   all_goals go_wp2
   all_goals
    go_roundw
    case rel=>
     obtain⟨dd,hRd,hNd,hVd,hgd⟩:=hA.open
     have hgs2:∀ b' off,so=some ⟨b',off,none⟩->0<sn->w.heap.size<b':=fun b' off he _=>by
      have h9:=hgd b' off he
      have h8:w.heap.size<wr.drew.heap.size:=hgs
      omega
     refine⟨k+1,oz q k ⟨ag != bg,so,sn,sc,dd,ae+be⟩,by omega,by go_num,lD.step (x:=⟨ag != bg,so,sn,sc,dd,ae+be⟩) HQ.out (ac hb1.drew hbv1) hRd hlt HG.out hgs2,fun i hi=>?_,fun i b' off hi he hn'=>?_,aU (ac hbw (ac hb1.drew hbv1)) (Nat.le_refl _) _ _ _⟩
     ·by_cases e:i=k
      ·subst e
       rw[lE,HXA.out,HXB.out]
       exact⟨hNd,rfl,hVd,rfl⟩
      ·rw[kH _ _ e]
       exact HF.out i (by omega)
     ·by_cases e:i=k
      ·subst e
       rw[lE] at he hn'
       exact hgs2 b' off he hn'
      ·rw[kH _ _ e] at he hn'
       exact HG.out i b' off (by omega) he hn'
    case measure=>simp[intOf];omega
  ·obtain rfl:k=n:=by omega
   go_wp2
   go_ret
   exact⟨_,q,rfl,Nat.le_refl _,HQ.out.nums hn,hbw,HF.out⟩
def gM (a b:Nat->aI):Nat->Int|0=>0|k+1=>gM a b k+lp (a k) (b k)
theorem rz {a b q:Nat->aI}:∀ n,(∀ i,i<n->(q i).ng=((a i).ng != (b i).ng)∧val (q i).d (q i).n=val (a i).d (a i).n*val (b i).d (b i).n∧(q i).e=(a i).e+(b i).e)->gj q n=gM a b n
 | 0,_=>rfl
 | k+1,h=>by
  obtain⟨h1,h2,h3⟩:=h k (by omega)
  show gj q k+sg (q k).ng (val (q k).d (q k).n)*pw (q k).e=gM a b k+sg ((a k).ng != (b k).ng) (val (a k).d (a k).n*val (b k).d (b k).n)*pw ((a k).e+(b k).e)
  rw[rz k fun i hi=>h i (by omega),h1,h2,h3]
def fj (x:aI):Prop:=-500000<=x.e∧x.e<=500000
theorem wL {x y q:aI} (ox:dI x=true) (oy:dI y=true) (hx:fj x) (hy:fj y) (h0:cf q.d q.n) (h2:val q.d q.n=val x.d x.n*val y.d y.n) (h3:q.e=x.e+y.e):dR q:=by
 refine⟨h0,?_,?_,?_⟩
 ·have a:=(jd ox).2.1
  have b:=(jd oy).2.1
  have a0:=bz (cD ox).1.1
  have b0:=bz (cD oy).1.1
  by_cases hq:q.n<=5000
  ·exact hq
  ·exfalso
   have c:=eR h0.1 (by omega) h0.2
   have d:=iz (show 4000<=q.n-1 by omega)
   have e:val x.d x.n*val y.d y.n<P 2000*P 2000:=by
    by_cases hz:val x.d x.n=0
    ·rw[hz,Int.zero_mul];exact Int.mul_pos (cA _) (cA _)
    ·exact Int.lt_of_lt_of_le (Int.mul_lt_mul_of_pos_left b (by omega)) (Int.mul_le_mul_of_nonneg_right (by omega) (Int.le_of_lt (cA _)))
   have f:P 2000*P 2000=P 4000:=by rw[dG 2000,dG 4000,<- Int.pow_add,show 30*2000+30*2000=30*4000 from rfl]
   rw[f] at e
   rw[h2] at c
   generalize P 4000=Y at *
   omega
 ·unfold fj at *;omega
 ·unfold fj at *;omega
theorem yC (ao bo:Option Addr) (n ca cb:Nat) (a b:Nat->aI) (p p2:Addr) (w:World) (c:w.cell? p=some (.slice ao n ca)) (c2:w.cell? p2=some (.slice bo n cb)) (ha:fG w ao n ca a) (hb:fG w bo n cb b) (oa:∀ i,i<n->dI (a i)=true) (ob:∀ i,i<n->dI (b i)=true) (la:∀ i,i<n->fj (a i)) (lb:∀ i,i<n->fj (b i)) (hn:n<=100000) (hT:dZ w) :
  Calls prog 136 #[.pointer (some p),.pointer (some p2)] w (mD w (gM a b n)):=by
 have hbe:=ah w (.cells #[.bool false,.slice none 0 0,.int .i64 0] 33)
 have k0:=aX c hbe
 have k1:=aX c2 hbe
 have g0:=aA w (.cells #[.bool false,.slice none 0 0,.int .i64 0] 33)
 have CP:=ry ao bo n ca cb a b _ (ha.keeps hbe) (hb.keeps hbe) hn (fun i hi=>cD (oa i hi)) (fun i hi=>cD (ob i hi))
 have hTx:=hT.keeps hbe
 have HSUM:Hid (∀ W g q,fG W (some ⟨g,0,none⟩) n n q->(∀ i,i<n->cf (q i).d (q i).n∧(q i).ng=((a i).ng != (b i).ng)∧val (q i).d (q i).n=val (a i).d (a i).n*val (b i).d (b i).n∧(q i).e=(a i).e+(b i).e)->dZ W->Calls prog 107 #[.slice (some ⟨g,0,none⟩) n n] W (mD W (gM a b n))):=fun W g q hN hF hTW=>by
  have:=oQ (some ⟨g,0,none⟩) n n q W hN (fun i hi=>wL (oa i hi) (ob i hi) (la i hi) (lb i hi) (hF i hi).1 (hF i hi).2.2.1 (hF i hi).2.2.2) hn hTW
  rwa [rz n fun i hi=>(hF i hi).2] at this
 generalize gM a b n=V at HSUM ⊢
 clear oa ob la lb ha hb
 go_enter func136,ntmps136
 go_wp2_with fail
 generalize w.alloc (.cells #[.bool false,.slice none 0 0,.int .i64 0] 33)=wx at *
 refine CP.mono ?_
 rintro x w1 ⟨g,q,rfl,hg,hN,hb1,hF⟩
 have HF:Hid _:=hF
 clear hF
 go_wp2_with fail
 refine(HSUM.out _ _ _ hN HF.out (hTx.keeps hb1)).mono ?_
 rintro x w7 (⟨hok,v,rfl,hD⟩|⟨hno,rfl,hb7⟩)
 ·have hb7:=hD.below
  obtain⟨ng',s',m',e',rfl,hyy,hA2⟩:=id hD
  obtain⟨so',sn',sc',rfl⟩:=hA2.num.shape
  have hlt:=(aGe g0).1
  have q0:=((ac hb1 hb7).block w.heap.size hlt).trans g0
  have x0:=af q0 0 rfl
  have x1:=af q0 1 rfl
  have x2:=af q0 2 rfl
  have z0:=ar q0 0
  have z1:=ar q0 1
  have z2:=ar q0 2
  go_wp2
  refine bodyPost_ret (v:=.agg #[.bool ng',.slice so' sn' sc',.int .i64 e']) (by simp[results,results136,go_sem,x0,x1,x2]) rfl ?_
  exact .inl ⟨hok,_,rfl,bG (g:=w.heap.size) hD (ac hbe hb1) (Nat.le_refl _) (Nat.lt_of_lt_of_le hlt hb1.size) _ _ _⟩
 ·exact⟨rfl,.inr ⟨hno,rfl,ac (ac hbe hb1) hb7⟩⟩
theorem Az (ao bo:Option Addr) (n ca cb:Nat) (a b:Nat->aI) (w:World) (ha:fG w ao n ca a) (hb:fG w bo n cb b) (oa:kt a n=true) (ob:kt b n=true) (la:∀ i,i<n->fj (a i)) (lb:∀ i,i<n->fj (b i)) (hn:n<=100000) (hT:dZ w) :
  Calls prog 113 #[.slice ao n ca,.slice bo n cb] w fun x w'=>∃ v er,x=.returned (.tuple #[v,.int .i64 er])∧ja w w' (gM a b n) v er:=by
 have hmf:∀ (fn:Fn) (first cap:Array Value) (w:World),(Instr.makeFunc fn first cap).run prog w=.ok (.func fn first cap) w:=fun _ _ _ _=>rfl
 have hE:∀ (cap:Array Value) (w:World),(callFunc 136 cap).run prog w=.ok (.enter 136 cap) w:=by
  intro cap w
  simp[go_sem]
 have hla:=ha.le
 have hma:=ha.max
 have hlb:=hb.le
 have hmb:=hb.max
 have CA:=fun W (h:Below w.heap.size w W)=>jJ ao n ca a W (ha.keeps h)
 have CB:=fun W (h:Below w.heap.size w W)=>jJ bo n cb b W (hb.keeps h)
 have CD:Hid (∀ W p p2,Below w.heap.size w W->W.cell? p=some (.slice ao n ca)->W.cell? p2=some (.slice bo n cb)->Calls prog 136 #[.pointer (some p),.pointer (some p2)] W (mD W (gM a b n))):=fun W p p2 h c1 c2=>yC ao bo n ca cb a b p p2 W c1 c2 (ha.keeps h) (hb.keeps h) (oV oa) (oV ob) la lb hn (hT.keeps h)
 generalize gM a b n=V at CD ⊢
 rw[oa] at CA
 rw[ob] at CB
 clear ha hb oa ob la lb hT
 have hb3:=dn w (.cells #[.slice ao n ca] 128) (.cells #[.slice bo n cb] 128) (.cells #[.bool false,.slice none 0 0,.int .i64 0] 33)
 have g0:=lj w (.cells #[.slice ao n ca] 128) (.cells #[.slice bo n cb] 128) (.cells #[.bool false,.slice none 0 0,.int .i64 0] 33)
 have g1:=lk w (.cells #[.slice ao n ca] 128) (.cells #[.slice bo n cb] 128) (.cells #[.bool false,.slice none 0 0,.int .i64 0] 33)
 have g2:=jc w (.cells #[.slice ao n ca] 128) (.cells #[.slice bo n cb] 128) (.cells #[.bool false,.slice none 0 0,.int .i64 0] 33)
 go_enter func113,ntmps113
 go_wp2_with fail
 generalize ((w.alloc (.cells #[.slice ao n ca] 128)).alloc (.cells #[.slice bo n cb] 128)).alloc (.cells #[.bool false,.slice none 0 0,.int .i64 0] 33)=wx at hb3 g0 g1 g2 ⊢
 refine(CA _ hb3).mono ?_
 rintro x w1 ⟨rfl,hb1⟩
 have hbw:=ac hb3 hb1
 replace g0:=(hb1.block _ (aGe g0).1).trans g0
 replace g1:=(hb1.block _ (aGe g1).1).trans g1
 replace g2:=(hb1.block _ (aGe g2).1).trans g2
 have k1:=af g1 0 rfl
 go_wp2_with fail
 clear k1
 refine(CB _ hbw).mono ?_
 rintro x w2 ⟨rfl,hb2⟩
 have hbw2:=ac hbw hb2
 replace g0:=(hb2.block _ (aGe g0).1).trans g0
 replace g1:=(hb2.block _ (aGe g1).1).trans g1
 replace g2:=(hb2.block _ (aGe g2).1).trans g2
 have hs3:=(aGe g2).1
 go_wp2_with fail
 refine(qF (V:=V) (hE _) (fun W hW=>CD.out W _ _ (ac hbw2 hW) (af ((hW.block _ (by omega)).trans g0) 0 rfl) (af ((hW.block _ (by omega)).trans g1) 0 rfl))).mono ?_
 rintro x w3 ⟨v,er,rfl,hF⟩
 obtain⟨ng',so,sn,sc,e',rfl⟩:=hF.shape
 have q0:=(hF.1.block (w.heap.size+2) hs3).trans g2
 have x0:=af q0 0 rfl
 have x1:=af q0 1 rfl
 have x2:=af q0 2 rfl
 have z0:=ar q0 0
 have z1:=ar q0 1
 have z2:=ar q0 2
 go_wp2
 refine bodyPost_ret (v:=.tuple #[.agg #[.bool ng',.slice so sn sc,.int .i64 e'],.int .i64 er]) (by simp[results,results113,go_sem,x0,x1,x2]) rfl ⟨_,_,rfl,?_⟩
 exact qE (g:=w.heap.size+2) hF hbw2 (by omega) (by omega) _ _ _
theorem iu {P:Program} (t:TypeId) {p q:Int} {x y:Nat} (hx:FW p x) (hy:FW q y) (h:aR (av p q)≠4) (w:World):(binOp .mul t (.float .f64 x) (.float .f64 y)).run P w=.ok (.float .f64 (wd (av p q))) w:=by
 obtain⟨z,w',hrun,hz⟩:=kA (P:=P) .mul (.inr (.inr (.inl rfl))) t x y w
 have hf:floatBits .mul .f64 x y=Ieee.double.mul x y:=rfl
 rw[hf] at hz
 rcases wn hx hy with⟨z',e1,e2⟩|⟨_,e2⟩
 ·rcases hz with⟨h1,h2⟩|⟨h1,_⟩
  ·rw[e1] at h1
   cases h1
   rw[hrun,h2,(e2.of h).2.1]
  ·rw[e1] at h1;cases h1
 ·exact absurd (by rw[e2];decide) h
theorem lZ {a b:Nat} {x:Int} (h:Fx a b x):FW x (wd x):=FW.pat (cv h.p) h.r
theorem Da {p q:Int} (hp:Mz p) (hq:Mz q) (w:World) :
  Calls prog 42 #[.int .i64 p,.int .i64 q] w fun r w'=>r=.returned (.float .f64 (wd (aE p (neg q))))∧w'=w:=by
 have hd:=fun W=>pj (P:=prog) 54 (FW.pat (cv hp.2.1) hp.1) (FW.pat (cv hq.2.1) hq.1) (cv (Bw hp hq).1) W
 have C1:Hid (∀ W,Calls prog 74 #[.int .i64 p] W fun e w'=>e=.returned (.float .f64 (wd p))∧w'=W):=fun W=>dN p W
 have C2:Hid (∀ W,Calls prog 74 #[.int .i64 q] W fun e w'=>e=.returned (.float .f64 (wd q))∧w'=W):=fun W=>dN q W
 clear hp hq
 generalize wd p=P at *
 generalize wd q=Q at *
 generalize wd (aE p (neg q))=R at *
 go_enter func42,ntmps42
 go_wp2_with fail
 refine(C1.out _).mono ?_
 rintro _ wz ⟨rfl,hwz⟩
 replace hwz:=hwz.symm
 subst hwz
 go_wp2_with fail
 refine(C2.out _).mono ?_
 rintro _ wz ⟨rfl,hwz⟩
 replace hwz:=hwz.symm
 subst hwz
 go_wp2
 go_ret
 exact⟨rfl,rfl⟩
def jh:Int:=4386506037058863104
theorem hY:ax jh:=by unfold ax jh;omega
theorem jX:iV jh=1125899906842624*2^975:=Ay (n:=973) hY (by decide) (by decide) (by decide) (by decide) (by decide)
def pL (u:Nat->Nat->Int) (p q:Nat):Int:=av (u p 0) (u q 1)
def mn (u:Nat->Nat->Int) (p q:Nat):Int:=aE (pL u p q) (neg (pL u q p))
def sz (u:Nat->Nat->Int) (p q:Nat):Int:=aE (rg (pL u p q)) (rg (pL u q p))
def dt (u:Nat->Nat->Int) (p q r:Nat):Int:=aE (aE (av (u p 2) (mn u q r)) (neg (av (u q 2) (mn u p r)))) (av (u r 2) (mn u p q))
def bW (u:Nat->Nat->Int) (p q r:Nat):Int:=aE (aE (av (sz u q r) (rg (u p 2))) (av (sz u r p) (rg (u q 2)))) (av (sz u p q) (rg (u r 2)))
def lf (u:Nat->Nat->Int) (p:Nat):Int:=aE (aE (aE 0 (av (u p 0) (u p 0))) (av (u p 1) (u p 1))) (av (u p 2) (u p 2))
def mX (X:Nat->Nat->Int) (p q:Nat):Int:=X p 0*X q 1-X q 0*X p 1
def dX (X:Nat->Nat->Int) (p q r:Nat):Int:=X p 2*mX X q r-X q 2*mX X p r+X r 2*mX X p q
def lX (X:Nat->Nat->Int) (p:Nat):Int:=X p 0*X p 0+X p 1*X p 1+X p 2*X p 2
structure Lg (X u:Nat->Nat->Int) (p:Nat):Prop where
 f:∀ k,k<3->Fx 872 1226 (u p k)
 n:∀ k,k<3->Un (X p k) (iV (u p k))
theorem ii {X u:Nat->Nat->Int} {p q:Nat} (hp:Lg X u p) (hq:Lg X u q):Fx 670 1379 (pL u p q)∧Un (iV (u p 0)*iV (u q 1)) (2^1074*iV (pL u p q)):=by
 obtain⟨l,lu,_⟩:=(hp.f 0 (by decide)).prod (hq.f 1 (by decide)) (by decide) (by decide) (by decide)
 exact⟨l,lu⟩
def wQ (u:Nat->Nat->Int) (p q:Nat):Int:=((2^1074*iV (pL u p q)).natAbs:Int)+((2^1074*iV (pL u q p)).natAbs:Int)
theorem oC (u:Nat->Nat->Int) (p q:Nat):wQ u p q=wQ u q p:=Int.add_comm _ _
theorem jD {X u:Nat->Nat->Int} {p q:Nat} (hp:Lg X u p) (hq:Lg X u q) :
  Fx 670 1381 (mn u p q)∧Dv 4611686018427388289 1152921504606847104 (mX X p q) (2^1074*iV (mn u p q)) (wQ u p q):=by
 obtain⟨l,lu⟩:=ii hp hq
 obtain⟨r,ru⟩:=ii hq hp
 obtain⟨nr,ne⟩:=r.neg
 obtain⟨d,du⟩:=l.sum nr (by decide)
 rw[ne,<- Int.sub_eq_add_neg] at du
 have du:=du.scale (Int.le_of_lt (p2 1074))
 rw[Int.mul_sub] at du
 exact⟨d,nJ (jg (hp.n 0 (by decide)) (hq.n 1 (by decide)) lu) (jg (hq.n 0 (by decide)) (hp.n 1 (by decide)) ru) du (by decide) (by decide)⟩
theorem nK {X u:Nat->Nat->Int} {p q:Nat} (hp:Lg X u p) (hq:Lg X u q) :
  Fx 670 1381 (sz u p q)∧Sz 1152921504606847104 (wQ u p q) (2^1074*iV (sz u p q)):=by
 obtain⟨l,lu⟩:=ii hp hq
 obtain⟨r,ru⟩:=ii hq hp
 obtain⟨la,le⟩:=l.abs
 obtain⟨ra,re⟩:=r.abs
 obtain⟨d,du⟩:=la.sum ra (by decide)
 rw[le,re] at du
 have p0:=Int.le_of_lt (p2 1074)
 have du:=du.scale p0
 rw[Int.mul_add,<- ir p0,<- ir p0] at du
 exact⟨d,io (jW _) (jW _) du (by decide) (by decide)⟩
theorem tK {X u:Nat->Nat->Int} {p q:Nat} (hp:Lg X u p) (hq:Lg X u q):sz u p q=sz u q p:=by
 obtain⟨l,lu⟩:=ii hp hq
 obtain⟨r,ru⟩:=ii hq hp
 obtain⟨la,le⟩:=l.abs
 obtain⟨ra,re⟩:=r.abs
 exact pf la.r ra.r la.p ra.p
def aQ (u:Nat->Nat->Int) (p k:Nat):Int:=((iV (u p k)).natAbs:Int)
theorem ij {X u:Nat->Nat->Int} {p q r:Nat} (hp:Lg X u p) (hq:Lg X u q) (hr:Lg X u r) :
  Fx 468 1534 (av (u p 2) (mn u q r))∧Dv 6917529027641083010 1152921504606847233 (X p 2*mX X q r) (2^1074*(2^1074*iV (av (u p 2) (mn u q r)))) (aQ u p 2*wQ u q r):=by
 obtain⟨m,d⟩:=jD hq hr
 obtain⟨t,tu,_⟩:=(hp.f 2 (by decide)).prod m (by decide) (by decide) (by decide)
 have tu:=tu.scale (Int.le_of_lt (p2 1074))
 rw[Int.mul_left_comm] at tu
 exact⟨t,wD (Cy (hp.n 2 (by decide))) d tu (by decide) (by decide)⟩
theorem ma {X u:Nat->Nat->Int} {p q r:Nat} (hp:Lg X u p) (hq:Lg X u q) (hr:Lg X u r) :
  Fx 468 1534 (av (sz u q r) (rg (u p 2)))∧Sz 1152921504606847233 (aQ u p 2*wQ u q r) (2^1074*(2^1074*iV (av (sz u q r) (rg (u p 2))))):=by
 obtain⟨m,d⟩:=nK hq hr
 obtain⟨a,ae⟩:=(hp.f 2 (by decide)).abs
 obtain⟨t,tu,_⟩:=m.prod a (by decide) (by decide) (by decide)
 have tu:=tu.scale (Int.le_of_lt (p2 1074))
 rw[<- Int.mul_assoc,ae] at tu
 rw[Int.mul_comm (aQ u p 2)]
 exact⟨t,wF d (jW _) tu (by decide) (by decide)⟩
def dQ (u:Nat->Nat->Int) (p q r:Nat):Int:=aQ u p 2*wQ u q r+aQ u q 2*wQ u p r+aQ u r 2*wQ u p q
theorem fV {X u:Nat->Nat->Int} {p q r:Nat} (hp:Lg X u p) (hq:Lg X u q) (hr:Lg X u r) :
  Fx 468 1538 (dt u p q r)∧∃ Z,Un Z (2^1074*(2^1074*iV (dt u p q r)))∧Dv 8070450532247930243 1152921504606847362 (dX X p q r) Z (dQ u p q r):=by
 obtain⟨f1,d1⟩:=ij hp hq hr
 obtain⟨f2,d2⟩:=ij hq hp hr
 obtain⟨f3,d3⟩:=ij hr hp hq
 obtain⟨n2,e2⟩:=f2.neg
 obtain⟨s,su⟩:=f1.sum n2 (by decide)
 rw[e2,<- Int.sub_eq_add_neg] at su
 obtain⟨t,tu⟩:=s.sum (f3.up (show 1534<=1536 by decide)) (by decide)
 have p0:=Int.le_of_lt (p2 1074)
 have su:=(su.scale p0).scale p0
 have tu:=(tu.scale p0).scale p0
 rw[Int.mul_sub,Int.mul_sub] at su
 rw[Int.mul_add,Int.mul_add] at tu
 exact⟨t,_,tu,ov (nJ d1 d2 su (by decide) (by decide)) (d3.up (by decide) (by decide))⟩
theorem fK {X u:Nat->Nat->Int} {p q r:Nat} (hp:Lg X u p) (hq:Lg X u q) (hr:Lg X u r) :
  Fx 468 1538 (bW u p q r)∧Sz 1152921504606847491 (dQ u p q r) (2^1074*(2^1074*iV (bW u p q r))):=by
 obtain⟨f1,d1⟩:=ma hp hq hr
 obtain⟨f2,d2⟩:=ma hq hr hp
 obtain⟨f3,d3⟩:=ma hr hp hq
 obtain⟨s,su⟩:=f1.sum f2 (by decide)
 obtain⟨t,tu⟩:=s.sum (f3.up (show 1534<=1536 by decide)) (by decide)
 have p0:=Int.le_of_lt (p2 1074)
 have su:=(su.scale p0).scale p0
 have tu:=(tu.scale p0).scale p0
 rw[Int.mul_add,Int.mul_add] at su tu
 have d3':Sz 1152921504606847362 (aQ u r 2*wQ u p q) (2^1074*(2^1074*iV (av (sz u p q) (rg (u r 2))))):=⟨d3.q,d3.s,Int.le_trans d3.l (Int.mul_le_mul_of_nonneg_right (by decide) d3.s)⟩
 have:=io (io d1 d2 su (G:=1152921504606847362) (by decide) (by decide)) d3' tu (G:=1152921504606847491) (by decide) (by decide)
 rw[oC u r p] at this
 exact⟨t,this⟩
def sA:Int:=4380876537524649991
theorem tL {p m:Int} {n:Nat} (hr:ax p) (hp:aF p=true) (h0:0<=p) (hm:bL p=m) (he:bM p+1074=n):iV p=m*2^n:=by
 have e:=jV hr hp
 rw[hm,he,Int.toNat_natCast] at e
 have s:0<=iV p:=by
  rw[iV,decide_eq_false (by omega)]
  exact Int.natCast_nonneg _
 omega
theorem fo:ax sA:=by unfold ax sA;omega
theorem ux:iV sA=7881299347898375*2^971:=tL (n:=971) fo (by decide) (by decide) (by decide) (by decide)
theorem Db:Fx 971 1024 sA:=by
 refine⟨fo,by decide,⟨7881299347898375,by rw[ux,Int.mul_comm]⟩,?_⟩
 rw[ux,Int.natAbs_mul,Int.natCast_mul]
 have e:(((2:Int)^971).natAbs:Int)=2^971:=by have:=p2 971;omega
 rw[e,show(2:Int)^1024=2^53*2^971 by rw[<- Int.pow_add]]
 exact Int.mul_le_mul_of_nonneg_right (by decide) (Int.le_of_lt (p2 971))
theorem wM {X u:Nat->Nat->Int} {p q r:Nat} (hp:Lg X u p) (hq:Lg X u q) (hr:Lg X u r) (h:iV (av sA (bW u p q r))<((iV (dt u p q r)).natAbs:Int)) :
  (0<dX X p q r↔0<iV (dt u p q r))∧(dX X p q r<0↔iV (dt u p q r)<0):=by
 obtain⟨fd,Z,uZ,dv⟩:=fV hp hq hr
 obtain⟨fs,hs⟩:=fK hp hq hr
 obtain⟨_,_,T,hT,uT⟩:=Db.prod fs (by decide) (by decide) (by decide)
 have p0:=Int.le_of_lt (p2 1074)
 have hT':10141204801825835211973625643008*T=7881299347898375*iV (bW u p q r):=by
  rw[ux,show(2:Int)^1074=2^103*2^971 by rw[<- Int.pow_add],show(2:Int)^103=10141204801825835211973625643008 by decide] at hT
  refine Int.eq_of_mul_eq_mul_left (Int.ne_of_gt (p2 971)) ?_
  rw[<- Int.mul_assoc,Int.mul_comm (2^971),hT,Int.mul_comm 7881299347898375 (2^971),Int.mul_assoc]
 have b1:=Int.le_of_eq hT'.symm
 have b2:7881299347898375*(2^1074*(2^1074*iV (bW u p q r)))<=10141204801825835211973625643008*(2^1074*(2^1074*T)):=by
  have:=Int.mul_le_mul_of_nonneg_left (Int.mul_le_mul_of_nonneg_left b1 p0) p0
  rwa [Int.mul_left_comm _ 7881299347898375,Int.mul_left_comm _ 7881299347898375,Int.mul_left_comm _ 10141204801825835211973625643008,Int.mul_left_comm _ 10141204801825835211973625643008] at this
 have s0:=hs.s
 have t0:0<=2^1074*(2^1074*T):=by
  generalize 2^1074*(2^1074*T)=t at *
  generalize 2^1074*(2^1074*iV (bW u p q r))=s at *
  omega
 have h':2^1074*(2^1074*iV (av sA (bW u p q r)))<(((2^1074*(2^1074*iV (dt u p q r)):Int)).natAbs:Int):=by
  rw[ir p0,ir p0]
  exact Int.mul_lt_mul_of_pos_left (Int.mul_lt_mul_of_pos_left h (p2 1074)) (p2 1074)
 obtain⟨r1,r2⟩:=tI dv uZ hs b2 ((uT.scale p0).scale p0) h' t0 (by decide) (by decide) (by decide)
 have g1:=ro (x:=iV (dt u p q r)) (p2 1074)
 have g2:=ro (x:=2^1074*iV (dt u p q r)) (p2 1074)
 exact⟨r1.trans (g2.1.trans g1.1),r2.trans (g2.2.trans g1.2)⟩
def tt (u:Nat->Nat->Int) (i p q r:Nat):Int:=av (lf u i) (dt u p q r)
def ts (u:Nat->Nat->Int) (i p q r:Nat):Int:=av (bW u r p q) (lf u i)
def fD (u:Nat->Nat->Int):Int:=aE (aE (tt u 3 0 1 2) (neg (tt u 2 3 0 1))) (aE (tt u 1 2 3 0) (neg (tt u 0 1 2 3)))
def fS (u:Nat->Nat->Int):Int:=aE (aE (aE (aE 0 (ts u 0 1 2 3)) (ts u 1 2 3 0)) (ts u 2 3 0 1)) (ts u 3 0 1 2)
def sX (X:Nat->Nat->Int):Int:=(lX X 3*dX X 0 1 2-lX X 2*dX X 3 0 1)+(lX X 1*dX X 2 3 0-lX X 0*dX X 1 2 3)
theorem fv {a b:Nat}:Fx a b 0:=⟨by unfold ax;omega,by decide,by rw[show iV 0=0 by decide];exact⟨0,by omega⟩,by rw[show iV 0=0 by decide];exact Int.le_of_lt (p2 b)⟩
theorem iR {a b:Nat} {x:Int} (hx:Fx a b x) (hb:b+1<=2097):Fx a b (aE 0 x)∧iV (aE 0 x)=iV x:=by
 obtain⟨f1,f2⟩:=ou (fv (a:=a) (b:=b)).r hx.r (fv (a:=a) (b:=b)).p hx.p (qb (b:=0) (fv (a:=a) (b:=b)).b hb hH) (qb (b:=0) hx.b hb hH)
 have nr:=tH (fv (a:=a) (b:=b)).r hx.r f2
 rw[show iV 0=0 by decide,Int.zero_add] at nr
 have e:=dJ (CU x) nr
 exact⟨⟨bk (fv (a:=a) (b:=b)).r hx.r,f1,by rw[e];exact hx.d,by rw[e];exact hx.b⟩,e⟩
def sQ (u:Nat->Nat->Int) (p k:Nat):Int:=((2^1074*iV (av (u p k) (u p k))).natAbs:Int)
def lQ (u:Nat->Nat->Int) (p:Nat):Int:=sQ u p 0+sQ u p 1+sQ u p 2
theorem iI {X u:Nat->Nat->Int} {p:Nat} (hp:Lg X u p) (k:Nat) (hk:k<3):Fx 670 1379 (av (u p k) (u p k))∧Un (iV (u p k)*iV (u p k)) (2^1074*iV (av (u p k) (u p k)))∧0<=2^1074*iV (av (u p k) (u p k)):=by
 obtain⟨l,lu,_⟩:=(hp.f k hk).prod (hp.f k hk) (by decide) (by decide) (by decide)
 have:0<=iV (u p k)*iV (u p k):=by
  rcases Int.le_total 0 (iV (u p k)) with c|c
  ·exact Int.mul_nonneg c c
  ·exact Int.mul_nonneg_of_nonpos_of_nonpos c c
 exact⟨l,lu,(pZ lu this).1⟩
theorem iJ {X u:Nat->Nat->Int} {p:Nat} (hp:Lg X u p) :
  Fx 670 1383 (lf u p)∧Dv 5764607523034235393 1152921504606847233 (lX X p) (2^1074*iV (lf u p)) (lQ u p)∧Sz 1152921504606847233 (lQ u p) (2^1074*iV (lf u p)):=by
 obtain⟨f0,u0,n0⟩:=iI hp 0 (by decide)
 obtain⟨f1,u1,n1⟩:=iI hp 1 (by decide)
 obtain⟨f2,u2,n2⟩:=iI hp 2 (by decide)
 obtain⟨g0,e0⟩:=iR f0 (by decide)
 obtain⟨s,su⟩:=g0.sum f1 (by decide)
 obtain⟨t,tu⟩:=s.sum (f2.up (show 1379<=1381 by decide)) (by decide)
 have p0:=Int.le_of_lt (p2 1074)
 rw[e0] at su
 have su:=su.scale p0
 have tu:=tu.scale p0
 rw[Int.mul_add] at su tu
 have a0:(2^1074*iV (av (u p 0) (u p 0)))=sQ u p 0:=(Int.natAbs_of_nonneg n0).symm
 have a1:(2^1074*iV (av (u p 1) (u p 1)))=sQ u p 1:=(Int.natAbs_of_nonneg n1).symm
 have a2:(2^1074*iV (av (u p 2) (u p 2)))=sQ u p 2:=(Int.natAbs_of_nonneg n2).symm
 have z0:=jW (2^1074*iV (av (u p 0) (u p 0)))
 have z1:=jW (2^1074*iV (av (u p 1) (u p 1)))
 have z2:=jW (2^1074*iV (av (u p 2) (u p 2)))
 rw[show((2^1074*iV (av (u p 0) (u p 0)):Int).natAbs:Int)=sQ u p 0 from rfl,<- a0] at z0
 rw[show((2^1074*iV (av (u p 1) (u p 1)):Int).natAbs:Int)=sQ u p 1 from rfl,<- a1] at z1
 rw[show((2^1074*iV (av (u p 2) (u p 2)):Int).natAbs:Int)=sQ u p 2 from rfl,<- a2] at z2
 have z2':Sz 1152921504606847104 (2^1074*iV (av (u p 2) (u p 2))) (2^1074*iV (av (u p 2) (u p 2))):=⟨z2.q,z2.s,Int.le_trans z2.l (Int.mul_le_mul_of_nonneg_right (by decide) z2.s)⟩
 have z3:=io (io z0 z1 su (G:=1152921504606847104) (by decide) (by decide)) z2' tu (G:=1152921504606847233) (by decide) (by decide)
 rw[a0,a1,a2] at z3
 exact⟨t,rl (rl (jg (hp.n 0 (by decide)) (hp.n 0 (by decide)) u0) (jg (hp.n 1 (by decide)) (hp.n 1 (by decide)) u1) su (K:=4611686018427388289) (C:=1152921504606847104) (by decide) (by decide)) ((jg (hp.n 2 (by decide)) (hp.n 2 (by decide)) u2).up (by decide) (by decide)) tu (by decide) (by decide),z3⟩
theorem BA (u:Nat->Nat->Int) (p q r:Nat):dQ u r p q=dQ u p q r:=by
 unfold dQ
 rw[oC u r q,oC u r p]
 omega
theorem gd {X u:Nat->Nat->Int} {i p q r:Nat} (hi:Lg X u i) (hp:Lg X u p) (hq:Lg X u q) (hr:Lg X u r) :
  Fx 64 1848 (tt u i p q r)∧Dv 16140901064495870498 1152921504606847877 (lX X i*dX X p q r) (2^1074*(2^1074*(2^1074*(2^1074*iV (tt u i p q r))))) (lQ u i*dQ u p q r):=by
 obtain⟨fl,dl,_⟩:=iJ hi
 obtain⟨fd,Z,uZ,dd⟩:=fV hp hq hr
 have dd:=wE dd uZ (K:=9223372036854777605) (C:=1152921504606847491) (by decide) (by decide)
 obtain⟨t,tu,_⟩:=fl.prod fd (by decide) (by decide) (by decide)
 have p0:=Int.le_of_lt (p2 1074)
 have tu:=((tu.scale p0).scale p0).scale p0
 have e:(2:Int)^1074*(2^1074*(2^1074*(iV (lf u i)*iV (dt u p q r))))=2^1074*iV (lf u i)*(2^1074*(2^1074*iV (dt u p q r))):=by
  generalize (2:Int)^1074=c
  grind
 rw[e] at tu
 exact⟨t,wD dl dd tu (by decide) (by decide)⟩
theorem ge {X u:Nat->Nat->Int} {i p q r:Nat} (hi:Lg X u i) (hp:Lg X u p) (hq:Lg X u q) (hr:Lg X u r) :
  Fx 64 1848 (ts u i p q r)∧Sz 1152921504606847877 (lQ u i*dQ u p q r) (2^1074*(2^1074*(2^1074*(2^1074*iV (ts u i p q r))))):=by
 obtain⟨fl,_,dl⟩:=iJ hi
 obtain⟨fd,dd⟩:=fK hr hp hq
 obtain⟨t,tu,_⟩:=fd.prod fl (by decide) (by decide) (by decide)
 have p0:=Int.le_of_lt (p2 1074)
 have tu:=((tu.scale p0).scale p0).scale p0
 have e:(2:Int)^1074*(2^1074*(2^1074*(iV (bW u r p q)*iV (lf u i))))=2^1074*(2^1074*iV (bW u r p q))*(2^1074*iV (lf u i)):=by
  generalize (2:Int)^1074=c
  grind
 rw[e] at tu
 have:=wF dd dl tu (G:=1152921504606847877) (by decide) (by decide)
 rw[BA,Int.mul_comm] at this
 exact⟨t,this⟩
def sB:Int:=4386506037058863111
theorem eI:ax sB:=by unfold ax sB;omega
theorem Dc:iV sB=4503599627370503*2^973:=tL (n:=973) eI (by decide) (by decide) (by decide) (by decide)
theorem yD {A B:Int} (h0:0<A) (h:A<=B):de A<=de B∧0<=de A:=by
 obtain⟨a,r,l,ea,RA,pa⟩:=eH (S:=A) (by omega)
 obtain⟨b,s,k,eb,RB,pb⟩:=eH (S:=B) (by omega)
 rw[decide_eq_false (show ¬ A<0 by omega)] at ea pa
 rw[decide_eq_false (show ¬ B<0 by omega)] at eb pb
 have ab:a<=b:=by
  have e1:A=a:=ea
  have e2:B=b:=eb
  omega
 have m:=yi (way:=0) (ng:=false) RA RB ab
 have n:0<=bT 0 false r l:=by
  unfold bT fC
  split
  ·split<;>omega
  ·split<;>omega
 rw[pa,pb]
 unfold aP
 rw[if_neg (by decide),if_neg (by decide)]
 exact⟨m,n⟩
theorem Dd {p q:Int} (hp:ax p) (hq:ax q) (p0:0<=p) (h:p<=q):iV p<=iV q:=by
 rcases Int.lt_or_eq_of_le h with c|c
 ·exact Int.le_of_lt (tJ hp hq (by rw[ig p0,ig (by omega)];exact c))
 ·rw[c];exact Int.le_refl _
theorem AC:Fx 1025 1025 jh:=by
 refine⟨hY,by decide,?_,?_⟩
 ·rw[jX,show(1125899906842624:Int)*2^975=2^50*2^975 by rfl,<- Int.pow_add]
  exact⟨1,by rw[Int.mul_one]⟩
 ·rw[jX,show(1125899906842624:Int)*2^975=2^50*2^975 by rfl,<- Int.pow_add]
  have:=p2 (50+975)
  rw[show(50+975:Nat)=1025 by rfl] at this ⊢
  omega
theorem BB {a b:Nat} {S:Int} (h64:64<=a) (hS:Fx a b S) (s0:0<=iV S):iV (av jh S)<=iV (av sB S):=by
  obtain⟨a1,a2⟩:=dh eI (show aF sB=true by decide)
  obtain⟨b1,b2⟩:=dh hS.r hS.p
  obtain⟨c1,c2⟩:=dh hY (show aF jh=true by decide)
  rcases Int.lt_or_eq_of_le s0 with c|c
  · have sp:¬ S<0:=fun h=>by
      have:=(rt hS.r).2.1 c
      unfold bl at this
      rw[if_pos h] at this
      have:=(bX hS.r).2
      unfold rg at this
      rw[if_pos h] at this
      omega
    have xs:fE sB S=false:=by unfold fE;rw[decide_eq_false sp];decide
    have xm:fE jh S=false:=by unfold fE;rw[decide_eq_false sp];decide
    have w0:=ct (-1074)
    have vS:0<am S:=by rw[cd hS.r hS.p];exact Int.mul_pos c w0
    have vB:am jh<=am sB:=by
      rw[cd hY (by decide),cd eI (by decide),jX,Dc,show(2:Int)^975=4*2^973 by rw[show(4:Int)=2^2 by rfl,<- Int.pow_add]]
      have q:=Int.le_of_lt (p2 973)
      refine Int.mul_le_mul_of_nonneg_right ?_ (Int.le_of_lt w0)
      generalize (2:Int)^973=z at *
      omega
    have le:dH jh S<=dH sB S:=by
      unfold dH
      rw[xs,xm]
      exact Int.ediv_le_ediv (aJ _) (Int.mul_le_mul_of_nonneg_right vB (Int.le_of_lt vS))
    have pos:0<dH jh S:=by
      obtain⟨k,hk⟩:=hS.d
      obtain ⟨T,hT⟩:∃ T,2^1074*T=iV jh*iV S:=⟨2^15*(2^(a-64)*k),by
        rw[jX,hk,show(1125899906842624:Int)*2^975=2^50*2^975 by rfl,<- Int.pow_add]
        have e:(2:Int)^a=2^64*2^(a-64):=by rw[<- Int.pow_add,show 64+(a-64)=a by omega]
        rw [e,show (2:Int)^(50+975)*(2^64*2^(a-64)*k)=(2^(50+975)*2^64)*(2^(a-64)*k) by rw [Int.mul_assoc,Int.mul_assoc],<- Int.pow_add,<- Int.mul_assoc,<- Int.pow_add]⟩
      have e2:=jO (a:=-1074) (b:=-1074) (by decide) (by decide)
      rw[show(-1074 + -1074:Int)=-2148 by decide] at e2
      have e3:=ew (e:=-2148) (by decide) 1074
      rw[show(-2148+((1074:Nat):Int))=-1074 by decide] at e3
      have hs:=yu (aJ 4194304) e2 e3 hT
      rw[<- cd hY (by decide),<- cd hS.r hS.p] at hs
      have tp:0<T:=by
        have:0<iV jh*iV S:=Int.mul_pos (by rw[jX];exact Int.mul_pos (by decide) (p2 975)) c
        rw[<- hT,Int.mul_comm] at this
        exact Int.pos_of_mul_pos_left this (p2 1074)
      unfold dH
      rw[xm,hs]
      exact Int.mul_pos tp w0
    have e1:av jh S=de (dH jh S):=by
      unfold av
      rw[if_neg (fun h=>h.elim c1 b1),if_neg (fun h=>h.elim c2 b2),if_neg (by omega),xm]
      rfl
    have e2:av sB S=de (dH sB S):=by
      unfold av
      rw[if_neg (fun h=>h.elim a1 b1),if_neg (fun h=>h.elim a2 b2),if_neg (by omega),xs]
      rfl
    obtain⟨m1,m2⟩:=yD pos le
    rw[e1,e2]
    exact Dd (by rw[<- e1];exact aH hY hS.r) (by rw[<- e2];exact aH eI hS.r) m2 m1
  · have z:∀ x,ax x->aF x=true->iV (av x S)=0:=fun x rx px=>by
      have s:=ri (T:=0) rx hS.r px hS.p (by rw[<- c,Int.mul_zero,Int.mul_zero])
      have f:aF (av x S)=true:=s.fin (by have:=hH;have:=p2 2097;omega)
      exact dJ iQ (s.nr f)
    rw[z _ hY (by decide),z _ eI (by decide)]
    exact Int.le_refl _
theorem mb {X u:Nat->Nat->Int} (h:∀ p,p<4->Lg X u p) :
  Fx 64 1854 (fS u)∧Sz 1152921504606848264 (lQ u 0*dQ u 1 2 3+lQ u 1*dQ u 2 3 0+lQ u 2*dQ u 3 0 1+lQ u 3*dQ u 0 1 2) (2^1074*(2^1074*(2^1074*(2^1074*iV (fS u))))):=by
 have l0:=h 0 (by decide)
 have l1:=h 1 (by decide)
 have l2:=h 2 (by decide)
 have l3:=h 3 (by decide)
 obtain⟨f0,z0⟩:=ge l0 l1 l2 l3
 obtain⟨f1,z1⟩:=ge l1 l2 l3 l0
 obtain⟨f2,z2⟩:=ge l2 l3 l0 l1
 obtain⟨f3,z3⟩:=ge l3 l0 l1 l2
 obtain⟨g0,e0⟩:=iR f0 (by decide)
 obtain⟨a,au⟩:=g0.sum f1 (by decide)
 obtain⟨b,bu⟩:=a.sum (f2.up (show 1848<=1850 by decide)) (by decide)
 obtain⟨c,cu⟩:=b.sum (f3.up (show 1848<=1852 by decide)) (by decide)
 have p0:=Int.le_of_lt (p2 1074)
 rw[e0] at au
 have au:=(((au.scale p0).scale p0).scale p0).scale p0
 have bu:=(((bu.scale p0).scale p0).scale p0).scale p0
 have cu:=(((cu.scale p0).scale p0).scale p0).scale p0
 rw[Int.mul_add,Int.mul_add,Int.mul_add,Int.mul_add] at au bu cu
 have z2':Sz 1152921504606848006 _ _:=⟨z2.q,z2.s,Int.le_trans z2.l (Int.mul_le_mul_of_nonneg_right (by decide) z2.s)⟩
 have z3':Sz 1152921504606848135 _ _:=⟨z3.q,z3.s,Int.le_trans z3.l (Int.mul_le_mul_of_nonneg_right (by decide) z3.s)⟩
 exact⟨c,io (io (io z0 z1 au (G:=1152921504606848006) (by decide) (by decide)) z2' bu (G:=1152921504606848135) (by decide) (by decide)) z3' cu (by decide) (by decide)⟩
theorem kI {X u:Nat->Nat->Int} (h:∀ p,p<4->Lg X u p) :
  Fx 64 1852 (fD u)∧∃ Z,Un Z (2^1074*(2^1074*(2^1074*(2^1074*iV (fD u)))))∧Dv 17293822569102718375 1152921504606848006 (sX X) Z ((lQ u 3*dQ u 0 1 2+lQ u 2*dQ u 3 0 1)+(lQ u 1*dQ u 2 3 0+lQ u 0*dQ u 1 2 3)):=by
 have l0:=h 0 (by decide)
 have l1:=h 1 (by decide)
 have l2:=h 2 (by decide)
 have l3:=h 3 (by decide)
 obtain⟨f0,d0⟩:=gd l0 l1 l2 l3
 obtain⟨f1,d1⟩:=gd l1 l2 l3 l0
 obtain⟨f2,d2⟩:=gd l2 l3 l0 l1
 obtain⟨f3,d3⟩:=gd l3 l0 l1 l2
 obtain⟨n2,e2⟩:=f2.neg
 obtain⟨n0,e0⟩:=f0.neg
 obtain⟨a,au⟩:=f3.sum n2 (by decide)
 obtain⟨b,bu⟩:=f1.sum n0 (by decide)
 obtain⟨c,cu⟩:=a.sum b (by decide)
 rw[e2,<- Int.sub_eq_add_neg] at au
 rw[e0,<- Int.sub_eq_add_neg] at bu
 have p0:=Int.le_of_lt (p2 1074)
 have au:=(((au.scale p0).scale p0).scale p0).scale p0
 have bu:=(((bu.scale p0).scale p0).scale p0).scale p0
 have cu:=(((cu.scale p0).scale p0).scale p0).scale p0
 rw[Int.mul_sub,Int.mul_sub,Int.mul_sub,Int.mul_sub] at au bu
 rw[Int.mul_add,Int.mul_add,Int.mul_add,Int.mul_add] at cu
 exact⟨c,_,cu,ov (nJ d3 d2 au (by decide) (by decide)) (nJ d1 d0 bu (by decide) (by decide))⟩
theorem sO {X u:Nat->Nat->Int} (h:∀ p,p<4->Lg X u p) (hb:iV (av sB (fS u))<((iV (fD u)).natAbs:Int)) :
  (0<sX X↔0<iV (fD u))∧(sX X<0↔iV (fD u)<0):=by
 obtain⟨fd,Z,uZ,dv⟩:=kI h
 obtain⟨fs,hs⟩:=mb h
 have eQ:lQ u 0*dQ u 1 2 3+lQ u 1*dQ u 2 3 0+lQ u 2*dQ u 3 0 1+lQ u 3*dQ u 0 1 2=(lQ u 3*dQ u 0 1 2+lQ u 2*dQ u 3 0 1)+(lQ u 1*dQ u 2 3 0+lQ u 0*dQ u 1 2 3):=by
  generalize lQ u 0*dQ u 1 2 3=x0
  generalize lQ u 1*dQ u 2 3 0=x1
  generalize lQ u 2*dQ u 3 0 1=x2
  generalize lQ u 3*dQ u 0 1 2=x3
  omega
 rw[eQ] at hs
 have p0:=Int.le_of_lt (p2 1074)
 have s0:0<=iV (fS u):=by
  have:=hs.s
  have q:∀ x:Int,0<=2^1074*x->0<=x:=fun x hx=>Int.nonneg_of_mul_nonneg_right hx (p2 1074)
  exact q _ (q _ (q _ (q _ this)))
 obtain⟨_,_,T,hT,uT⟩:=AC.prod fs (by decide) (by decide) (by decide)
 have hT':9007199254740992*T=16*iV (fS u):=by
  rw[jX,show(1125899906842624:Int)*2^975=2^1025 by rw[show(1125899906842624:Int)=2^50 by rfl,<- Int.pow_add],show(2:Int)^1074=2^1025*2^49 by rw[<- Int.pow_add],Int.mul_assoc] at hT
  have:=Int.eq_of_mul_eq_mul_left (Int.ne_of_gt (p2 1025)) hT
  rw[show(2:Int)^49=562949953421312 by rfl] at this
  omega
 have b1:=Int.le_of_eq hT'.symm
 have b2:16*(2^1074*(2^1074*(2^1074*(2^1074*iV (fS u)))))<=9007199254740992*(2^1074*(2^1074*(2^1074*(2^1074*T)))):=by
  have:=Int.mul_le_mul_of_nonneg_left (Int.mul_le_mul_of_nonneg_left (Int.mul_le_mul_of_nonneg_left (Int.mul_le_mul_of_nonneg_left b1 p0) p0) p0) p0
  have e:∀ m x:Int,(2:Int)^1074*(2^1074*(2^1074*(2^1074*(m*x))))=m*(2^1074*(2^1074*(2^1074*(2^1074*x)))):=fun m x=>by
   generalize (2:Int)^1074=c
   grind
  rwa [e,e] at this
 have t0:0<=2^1074*(2^1074*(2^1074*(2^1074*T))):=Int.mul_nonneg p0 (Int.mul_nonneg p0 (Int.mul_nonneg p0 (Int.mul_nonneg p0 (by omega))))
 have h':2^1074*(2^1074*(2^1074*(2^1074*iV (av jh (fS u)))))<(((2^1074*(2^1074*(2^1074*(2^1074*iV (fD u)))):Int)).natAbs:Int):=by
  rw[ir p0,ir p0,ir p0,ir p0]
  exact Int.mul_lt_mul_of_pos_left (Int.mul_lt_mul_of_pos_left (Int.mul_lt_mul_of_pos_left (Int.mul_lt_mul_of_pos_left (Int.lt_of_le_of_lt (BB (by decide) fs s0) hb) (p2 1074)) (p2 1074)) (p2 1074)) (p2 1074)
 obtain⟨r1,r2⟩:=tI dv uZ hs b2 ((((uT.scale p0).scale p0).scale p0).scale p0) h' t0 (by decide) (by decide) (by decide)
 have g:∀ x:Int,(0<2^1074*x↔0<x)∧(2^1074*x<0↔x<0):=fun x=>ro (p2 1074)
 exact⟨r1.trans ((g _).1.trans ((g _).1.trans ((g _).1.trans (g _).1))),r2.trans ((g _).2.trans ((g _).2.trans ((g _).2.trans (g _).2)))⟩
theorem ak {w W:World} (h:Below w.heap.size w W) {g:Nat} {X:Obj} (k:w.heap[g]?=some X):W.heap[g]?=some X:=(h.block _ (aGe k).1).trans k
structure gb (arr:Array Value) (u:Nat->Nat->Int):Prop where
 n:arr.size=44
 o:arr.all (·.oneCell')=true
 l:∀ p,p<4->∀ k,k<3->arr[p*3+k]?=some (.float .f64 (wd (u p k)))
 m:∀ p,p<4->∀ q,q<4->p≠q->arr[12+p*8+q*2]?=some (.float .f64 (wd (mn u p q)))
 s:∀ p,p<4->∀ q,q<4->p≠q->arr[12+p*8+q*2+1]?=some (.float .f64 (wd (sz u p q)))
def Lf (u:Nat->Nat->Int):Prop:=∀ p,p<4->∀ k,k<3->Fx 872 1226 (u p k)
theorem Lf.lg {u:Nat->Nat->Int} (h:Lf u) {p:Nat} (hp:p<4):Lg (fun p k=>iV (u p k)) u p:=⟨fun k hk=>h p hp k hk,fun k hk=>by unfold Un;rw[Int.sub_self];simp⟩
theorem cT {a b c d:Nat} {x y:Int} (hx:Fx a b x) (hy:Fx c d y) (hz:aF (av x y)=true):∀ W,(binOp .mul 54 (.float .f64 (wd x)) (.float .f64 (wd y))).run prog W=.ok (.float .f64 (wd (av x y))) W:=fun W=>iu _ (lZ hx) (lZ hy) (cv hz) W
theorem et {a b c d:Nat} {x y:Int} (hx:Fx a b x) (hy:Fx c d y) (hz:aF (aE x y)=true):∀ W,(binOp .add 54 (.float .f64 (wd x)) (.float .f64 (wd y))).run prog W=.ok (.float .f64 (wd (aE x y))) W:=fun W=>yz _ (lZ hx) (lZ hy) (cv hz) W
theorem jY {a b c d:Nat} {x y:Int} (hx:Fx a b x) (hy:Fx c d y) (hz:aF (aE x (neg y))=true):∀ W,(binOp .sub 54 (.float .f64 (wd x)) (.float .f64 (wd y))).run prog W=.ok (.float .f64 (wd (aE x (neg y)))) W:=fun W=>pj _ (lZ hx) (lZ hy) (cv hz) W
theorem ji {u:Nat->Nat->Int} (hL:Lf u) {p q r:Nat} (hp:p<4) (hq:q<4) (hr:r<4) (pq:p≠q) (pr:p≠r) (qr:q≠r) {arr:Array Value} (hA:gb arr u) (g:Nat) (w:World) (hg:w.heap[g]?=some (.cells arr 103 (0,0))) :
  Calls prog 67 #[.pointer (some ⟨g,0,none⟩),.int .i64 p,.int .i64 q,.int .i64 r] w fun e w'=>e=.returned (.float .f64 (wd (dt u p q r)))∧Below w.heap.size w w':=by
 have gp:=hL.lg hp
 have gq:=hL.lg hq
 have gr:=hL.lg hr
 have m1:=(jD gq gr).1
 have m2:=(jD gp gr).1
 have m3:=(jD gp gq).1
 have t1:=(ij gp gq gr).1
 have t2:=(ij gq gp gr).1
 have t3:=(ij gr gp gq).1
 obtain⟨s1,-⟩:=t1.sum t2.neg.1 (by decide)
 have h1:=cT (gp.f 2 (by decide)) m1 t1.p
 have h2:=cT (gq.f 2 (by decide)) m2 t2.p
 have h3:=cT (gr.f 2 (by decide)) m3 t3.p
 have h4:=jY t1 t2 s1.p
 have h5:=et s1 t3 (fV gp gq gr).1.p
 have c1:=af hg _ (hA.l p hp 2 (by decide))
 have c2:=af hg _ (hA.l q hq 2 (by decide))
 have c3:=af hg _ (hA.l r hr 2 (by decide))
 have c4:=af hg _ (hA.m q hq r hr qr)
 have c5:=af hg _ (hA.m p hp r hr pr)
 have c6:=af hg _ (hA.m p hp q hq pq)
 have p3:(p:Int)<4:=by omega
 have q3:(q:Int)<4:=by omega
 have r3:(r:Int)<4:=by omega
 unfold dt
 clear gp gq gr m1 m2 m3 t1 t2 t3 s1 hL hA hg
 generalize aE (aE (av (u p 2) (mn u q r)) (neg (av (u q 2) (mn u p r)))) (av (u r 2) (mn u p q))=D at *
 generalize aE (av (u p 2) (mn u q r)) (neg (av (u q 2) (mn u p r)))=S at *
 generalize av (u p 2) (mn u q r)=A at *
 generalize av (u q 2) (mn u p r)=B at *
 generalize av (u r 2) (mn u p q)=C at *
 generalize mn u q r=x1 at *
 generalize mn u p r=x2 at *
 generalize mn u p q=x3 at *
 go_enter func67,ntmps67
 go_wp2_with fail
 go_quiet (fail)
 go_wp2_with fail
 have hd:=aO (al w) nq
 replace c2:=aj c2 hd
 replace c3:=aj c3 hd
 replace c5:=aj c5 hd
 replace c6:=aj c6 hd
 clear c1 c4
 generalize w.drewN nq=w1 at *
 go_quiet (fail)
 go_wp2_with fail
 have hd2:=aO (al w1) nq
 replace c3:=aj c3 hd2
 replace c6:=aj c6 hd2
 clear c2 c5
 generalize w1.drewN nq=w2 at *
 go_quiet (fail)
 go_wp2
 go_ret
 exact⟨rfl,ac (ac hd hd2) (aO (al w2) _)⟩
theorem iw {u:Nat->Nat->Int} (hL:Lf u) {p q r:Nat} (hp:p<4) (hq:q<4) (hr:r<4) (pq:p≠q) (pr:p≠r) (qr:q≠r) {arr:Array Value} (hA:gb arr u) (g:Nat) (w:World) (hg:w.heap[g]?=some (.cells arr 103 (0,0))) :
  Calls prog 68 #[.pointer (some ⟨g,0,none⟩),.int .i64 p,.int .i64 q,.int .i64 r] w fun e w'=>e=.returned (.float .f64 (wd (bW u p q r)))∧Below w.heap.size w w':=by
 have gp:=hL.lg hp
 have gq:=hL.lg hq
 have gr:=hL.lg hr
 have m1:=(nK gq gr).1
 have m2:=(nK gr gp).1
 have m3:=(nK gp gq).1
 have t1:=(ma gp gq gr).1
 have t2:=(ma gq gr gp).1
 have t3:=(ma gr gp gq).1
 obtain⟨s1,-⟩:=t1.sum t2 (by decide)
 have h1:=cT m1 (gp.f 2 (by decide)).abs.1 t1.p
 have h2:=cT m2 (gq.f 2 (by decide)).abs.1 t2.p
 have h3:=cT m3 (gr.f 2 (by decide)).abs.1 t3.p
 have h4:=et t1 t2 s1.p
 have h5:=et s1 t3 (fK gp gq gr).1.p
 have a1:Hid (∀ W,Calls prog 43 #[.float .f64 (wd (u p 2))] W fun e w'=>e=.returned (.float .f64 (wd (rg (u p 2))))∧w'=W):=fun W=>cQ (gp.f 2 (by decide)).r W
 have a2:Hid (∀ W,Calls prog 43 #[.float .f64 (wd (u q 2))] W fun e w'=>e=.returned (.float .f64 (wd (rg (u q 2))))∧w'=W):=fun W=>cQ (gq.f 2 (by decide)).r W
 have a3:Hid (∀ W,Calls prog 43 #[.float .f64 (wd (u r 2))] W fun e w'=>e=.returned (.float .f64 (wd (rg (u r 2))))∧w'=W):=fun W=>cQ (gr.f 2 (by decide)).r W
 have c1:=af hg _ (hA.l p hp 2 (by decide))
 have c2:=af hg _ (hA.l q hq 2 (by decide))
 have c3:=af hg _ (hA.l r hr 2 (by decide))
 have c4:=af hg _ (hA.s q hq r hr qr)
 have c5:=af hg _ (hA.s r hr p hp (Ne.symm pr))
 have c6:=af hg _ (hA.s p hp q hq pq)
 have p3:(p:Int)<4:=by omega
 have q3:(q:Int)<4:=by omega
 have r3:(r:Int)<4:=by omega
 unfold bW
 clear gp gq gr m1 m2 m3 t1 t2 t3 s1 hL hA hg
 generalize aE (aE (av (sz u q r) (rg (u p 2))) (av (sz u r p) (rg (u q 2)))) (av (sz u p q) (rg (u r 2)))=D at *
 generalize aE (av (sz u q r) (rg (u p 2))) (av (sz u r p) (rg (u q 2)))=S at *
 generalize av (sz u q r) (rg (u p 2))=A at *
 generalize av (sz u r p) (rg (u q 2))=B at *
 generalize av (sz u p q) (rg (u r 2))=C at *
 generalize sz u q r=x1 at *
 generalize sz u r p=x2 at *
 generalize sz u p q=x3 at *
 generalize rg (u p 2)=y1 at *
 generalize rg (u q 2)=y2 at *
 generalize rg (u r 2)=y3 at *
 go_enter func68,ntmps68
 go_wp2_with fail
 go_quiet (first|(go_at_call 43;with_reducible exact Calls.quiet_of_same (a1.out _)))
 go_wp2_with fail
 have hd:=aO (al w) nq
 replace c2:=aj c2 hd
 replace c3:=aj c3 hd
 replace c5:=aj c5 hd
 replace c6:=aj c6 hd
 clear c1 c4
 generalize w.drewN nq=w1 at *
 go_quiet (first|(go_at_call 43;with_reducible exact Calls.quiet_of_same (a2.out _)))
 go_wp2_with fail
 have hd2:=aO (al w1) nq
 replace c3:=aj c3 hd2
 replace c6:=aj c6 hd2
 clear c2 c5
 generalize w1.drewN nq=w2 at *
 go_quiet (first|(go_at_call 43;with_reducible exact Calls.quiet_of_same (a3.out _)))
 go_wp2
 go_ret
 exact⟨rfl,ac (ac hd hd2) (aO (al w2) _)⟩
theorem yE:wd 0=0:=by decide
theorem jE {u:Nat->Nat->Int} (hL:Lf u) {p:Nat} (hp:p<4) {arr:Array Value} (hA:gb arr u) (g:Nat) (w:World) (hg:w.heap[g]?=some (.cells arr 103 (0,0))) :
  Calls prog 88 #[.pointer (some ⟨g,0,none⟩),.int .i64 p] w fun e w'=>e=.returned (.float .f64 (wd (lf u p)))∧Below w.heap.size w w':=by
 have gp:=hL.lg hp
 obtain⟨f0,-,-⟩:=iI gp 0 (by decide)
 obtain⟨f1,-,-⟩:=iI gp 1 (by decide)
 obtain⟨f2,-,-⟩:=iI gp 2 (by decide)
 obtain⟨s0,-⟩:=iR f0 (by decide)
 obtain⟨s1,-⟩:=s0.sum f1 (by decide)
 have h0:=cT (gp.f 0 (by decide)) (gp.f 0 (by decide)) f0.p
 have h1:=cT (gp.f 1 (by decide)) (gp.f 1 (by decide)) f1.p
 have h2:=cT (gp.f 2 (by decide)) (gp.f 2 (by decide)) f2.p
 have k0:=et (fv (a:=0) (b:=0)) f0 s0.p
 have k1:=et s0 f1 s1.p
 have k2:=et s1 f2 (iJ gp).1.p
 have c0:=af hg _ (hA.l p hp 0 (by decide))
 have c1:=af hg _ (hA.l p hp 1 (by decide))
 have c2:=af hg _ (hA.l p hp 2 (by decide))
 have p3:(p:Int)<4:=by omega
 rw[yE] at k0
 rw[Nat.add_zero] at c0
 unfold lf
 clear gp f0 f1 f2 s0 s1 hL hA hg
 generalize aE (aE (aE 0 (av (u p 0) (u p 0))) (av (u p 1) (u p 1))) (av (u p 2) (u p 2))=D at *
 generalize aE (aE 0 (av (u p 0) (u p 0))) (av (u p 1) (u p 1))=C at *
 generalize aE 0 (av (u p 0) (u p 0))=B at *
 generalize av (u p 0) (u p 0)=q0 at *
 generalize av (u p 1) (u p 1)=q1 at *
 generalize av (u p 2) (u p 2)=q2 at *
 generalize u p 0=x0 at *
 generalize u p 1=x1 at *
 generalize u p 2=x2 at *
 have i0:∀ w,(Instr.index 80 (.agg #[.float .f64 (wd x0),.float .f64 (wd x1),.float .f64 (wd x2)]) (.int .i64 0)).run prog w=.ok (.float .f64 (wd x0)) w:=fun _=>by kernel_rfl
 have i1:∀ w,(Instr.index 80 (.agg #[.float .f64 (wd x0),.float .f64 (wd x1),.float .f64 (wd x2)]) (.int .i64 1)).run prog w=.ok (.float .f64 (wd x1)) w:=fun _=>by kernel_rfl
 have i2:∀ w,(Instr.index 80 (.agg #[.float .f64 (wd x0),.float .f64 (wd x1),.float .f64 (wd x2)]) (.int .i64 2)).run prog w=.ok (.float .f64 (wd x2)) w:=fun _=>by kernel_rfl
 go_enter func88,ntmps88
 go_wp2_with fail
 clear c0 c1 c2
 go_loopw [14,5] (fun i x wr=>Hid (wr=w)∧((i=.int .i64 0∧x=.float .f64 0)∨(i=.int .i64 1∧x=.float .f64 (wd B))∨(i=.int .i64 2∧x=.float .f64 (wd C))∨(i=.int .i64 3∧x=.float .f64 (wd D)))) (fun i _ _=>3-(intOf i).toNat)
 case atStart=>exact⟨rfl,.inl ⟨rfl,rfl⟩⟩
 case round=>
  obtain⟨HW,hrel⟩:=hrel
  obtain rfl:=HW.out
  rcases hrel with⟨rfl,rfl⟩|⟨rfl,rfl⟩|⟨rfl,rfl⟩|⟨rfl,rfl⟩
  ·go_wp2
   go_roundw
   case rel=>exact⟨eG trivial,.inr (.inl ⟨by go_num,rfl⟩)⟩
   case measure=>simp[intOf]
  ·go_wp2
   go_roundw
   case rel=>exact⟨eG trivial,.inr (.inr (.inl ⟨by go_num,rfl⟩))⟩
   case measure=>simp[intOf]
  ·go_wp2
   go_roundw
   case rel=>exact⟨eG trivial,.inr (.inr (.inr ⟨by go_num,rfl⟩))⟩
   case measure=>simp[intOf]
  ·go_wp2
   go_ret
   exact⟨rfl,al _⟩
theorem uy (ng:Bool) (ao:Option Addr) (n cap:Nat) (e:Int) (w:World) (hm:n<=9223372036854775807) :
  Calls prog 50 #[.agg #[.bool ng,.slice ao n cap,.int .i64 e]] w fun r w'=>r=.returned (.int .i64 (dT ng n))∧Below w.heap.size w w':=by
 by_cases h0:n=0
 ·subst h0
  go_enter func50,ntmps50
  go_wp2
  go_ret
  exact⟨rfl,ah _ _⟩
 ·have hn0:((n:Int) == 0)=false:=by simp;omega
  cases ng
  ·go_enter func50,ntmps50
   go_wp2
   go_ret
   exact⟨cz (by simp[dT,h0]),ah _ _⟩
  ·go_enter func50,ntmps50
   go_wp2
   go_ret
   exact⟨cz (by simp[dT,h0]),ah _ _⟩
def aI.opp (x:aI):aI:=⟨if x.n=0 then x.ng else !x.ng,x.ao,x.n,x.cap,x.d,x.e⟩
theorem pl (x:aI) (w:World) (hm:x.n<=9223372036854775807) :
  Calls prog 91 #[x.v] w fun r w'=>r=.returned x.opp.v∧Below w.heap.size w w':=by
 obtain⟨ng,ao,n,cap,d,e⟩:=x
 unfold aI.v aI.opp
 simp only at *
 by_cases h0:n=0
 ·subst h0
  go_enter func91,ntmps91
  go_wp2
  refine bodyPost_ret (v:=.agg #[.bool ng,.slice ao 0 cap,.int .i64 e]) (by simp[results,results91,go_sem]) rfl ⟨rfl,?_⟩
  exact aL _ _ _
 ·have hn0:(0:Int)<n:=by omega
  rw[if_neg h0]
  go_enter func91,ntmps91
  go_wp2
  refine bodyPost_ret (v:=.agg #[.bool (!ng),.slice ao n cap,.int .i64 e]) (by simp[results,results91,go_sem]) rfl ⟨rfl,?_⟩
  exact aL _ _ _
end Go.Proofs.YtcklaogdjpbagaaGreatDoor
