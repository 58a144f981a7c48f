/- Parts of the proof. -/
import Derived.Test.YtobofhgpidbpmaaDoorSt9
import Derived.Test.YtobofhgpidbpmaaDoorSt7
import Derived.Test.YtobofhgpidbpmaaDoorSt3
import Derived.Test.YtobofhgpidbpmaaDoorSt8
import Derived.Laws.Externs
set_option linter.unusedVariables false
set_option linter.unusedSimpArgs false
namespace Go.Proofs.YtobofhgpidbpmaaDoor
open Go Go.RowKit Go.Proofs.YtobofhgpidbpmaaDoor.M
theorem Ls.same.fin {s t:Ls} (h:s.same t) (ht:t.fin):s.fin:=fun i hi=>by
  rw [h.2 i hi]
  exact ht i (by rw [<- h.1]; exact hi)
theorem BelP.below {P:Nat->Prop} {N:Nat} {w w':World} (h:BelP P w w') (hP:∀ k,k<N->P k):Below N w w':=⟨h.os,h.tape,h.output,h.size,fun k hk=>h.block k (hP k hk)⟩
theorem OutP.raise {P:Nat->Prop} {N:Nat} {w:World} {v:Value} {s:Ls} (h:OutP P w v s) (hP:∀ k,k<N->P k):Out N w v s.n s.d:=by
  have h1:=h.1
  rcases h1.2 with q | ⟨g,cap,cur,q1,_,q3⟩
  . exact ⟨h1.1,.inl q⟩
  . refine ⟨h1.1,.inr ⟨g,cap,cur,q1,?_,q3⟩⟩
    have h2:=h.2 g (by rw [q1]; rfl)
    exact Nat.le_of_not_lt fun e=>h2 (hP g e)
end Go.Proofs.YtobofhgpidbpmaaDoor
namespace Go.Proofs.YtobofhgpidbpmaaDoor
open Go Go.RowKit Go.Proofs.YtobofhgpidbpmaaDoor.M Ieee
end Go.Proofs.YtobofhgpidbpmaaDoor
namespace Go.Proofs.YtobofhgpidbpmaaDoor
open Go Go.RowKit Go.Proofs.YtobofhgpidbpmaaDoor.M
def Mz (x:Int):Prop:=rng x∧pok x=true∧(2^872:Int) ∣ iV x∧((iV x).natAbs:Int)<=2^1224
theorem tame_Mz {x:Int} (hx:rng x) (ht:tame x=true):Mz x:=by
  rw [tame_fld hx] at ht
  by_cases h0:rg x=0
  . have hc:=(cls_nought hx).2 h0
    have hp:pok x=true:=by
      cases hp:pok x
      . exfalso
        have hf:fld x=2047:=by simpa [pok] using hp
        unfold cls at hc
        rw [if_pos hf] at hc
        split at hc <;> omega
      . rfl
    rw [Mz,iV_nought hx h0]
    exact ⟨hx,hp,⟨0,by rw [Int.mul_zero]⟩,by have:=p2 1224; show (((0:Int).natAbs:Nat):Int)<=_; omega⟩
  . have hz:decide (rg x=0)=false:=decide_eq_false h0
    rw [hz,Bool.false_or,Bool.and_eq_true] at ht
    have h1:=of_decide_eq_true ht.1
    have h2:=of_decide_eq_true ht.2
    have hf0:fld x≠2047:=by omega
    have hf1:fld x≠0:=by omega
    have hp:pok x=true:=by simp [pok,hf0]
    have hfr:=frc_le x
    have e1:pmag x=4503599627370496+frc x:=by unfold pmag; rw [if_neg hf0,if_neg hf1]
    have e2:pexp x=fld x-1075:=by unfold pexp; rw [if_neg hf0,if_neg hf1]
    have hm:pmag x<=2^53:=by
      rw [e1]
      show _<=9007199254740992
      omega
    refine ⟨hx,hp,?_,?_⟩
    . apply Int.dvd_natAbs.1
      rw [iV_form hx hp]
      exact Int.dvd_trans (p2dvd (show 872<=(pexp x+1074).toNat by rw [e2]; omega)) ⟨pmag x,by rw [Int.mul_comm]⟩
    . rw [iV_form hx hp]
      have p1:(2:Int)^(pexp x+1074).toNat<=2^1171:=p2le (by rw [e2]; omega)
      have p0:=p2 (pexp x+1074).toNat
      calc pmag x*2^(pexp x+1074).toNat<=2^53*2^(pexp x+1074).toNat:=Int.mul_le_mul_of_nonneg_right hm (by omega)
        _<=2^53*2^1171:=Int.mul_le_mul_of_nonneg_left p1 (by decide)
        _=2^1224:=by rw [<- Int.pow_add]
theorem df_fin {p q:Int} (hp:Mz p) (hq:Mz q):pok (fsum p (neg q))=true∧pok (sL p (neg q))=true:=by
  obtain ⟨n1,n2,n3⟩:=neg_facts hq.1 hq.2.1
  have hM:=maxV_ge
  have h1:(2:Int)^1225<=2^2097:=p2le (by decide)
  have h2:(2:Int)^1225=2*2^1224:=p2s 1224
  have a:=hp.2.2.2
  have b:=hq.2.2.2
  exact sum_fin hp.1 n1 hp.2.1 n2 (by omega) (by rw [n3]; omega)
def Un (S h:Int):Prop:=9007199254740992*((h-S).natAbs:Int)<=(S.natAbs:Int)∧9007199254740992*((h-S).natAbs:Int)<=(h.natAbs:Int)
theorem nr_Un_pos {S h:Int} (n:Nr S h) (h0:0<=S):Un S h:=by
  obtain ⟨k,h1,h2⟩:=binade S h0
  rcases h2 with h2 | h2
  . subst h2
    have e:=nr_self ⟨0,⟨S,by rw [Int.pow_zero]; omega⟩,by omega⟩ n
    subst e
    rw [Un,Int.sub_self]
    simp
  . have c:=nr_err n (i:=k) (by omega)
    have g:=nr_ge n (fl_p2 k (m:=4503599627370496) (by decide)) h2
    have p0:=p2 k
    generalize (2:Int)^k=q at *
    have g':4503599627370496*q<=h:=g
    constructor <;> omega
theorem nr_Un {S h:Int} (n:Nr S h):Un S h:=by
  by_cases h0:0<=S
  . exact nr_Un_pos n h0
  . have:=nr_Un_pos n.neg (by omega)
    unfold Un at *
    omega
theorem Un.scale {S h:Int} (u:Un S h) {c:Int} (hc:0<=c):Un (c*S) (c*h):=by
  have e:∀ x:Int,((c*x).natAbs:Int)=c*(x.natAbs:Int):=fun x=>by
    rw [Int.natAbs_mul,Int.natCast_mul]
    congr 1
    omega
  rw [Un,<- Int.mul_sub,e,e,e,<- Int.mul_assoc,Int.mul_comm 9007199254740992 c,Int.mul_assoc]
  exact ⟨Int.mul_le_mul_of_nonneg_left u.1 hc,Int.mul_le_mul_of_nonneg_left u.2 hc⟩
theorem abs_mul (x y:Int):((x*y).natAbs:Int)=(x.natAbs:Int)*(y.natAbs:Int):=by rw [Int.natAbs_mul,Int.natCast_mul]
theorem part_l {u e v:Int} (h:9007199254740992*(e.natAbs:Int)<=(u.natAbs:Int)):9007199254740992*((e*v).natAbs:Int)<=((u*v).natAbs:Int):=by
  rw [abs_mul,abs_mul,<- Int.mul_assoc]
  exact Int.mul_le_mul_of_nonneg_right h (by omega)
theorem part_r {u e v:Int} (h:9007199254740992*(e.natAbs:Int)<=(u.natAbs:Int)):9007199254740992*((v*e).natAbs:Int)<=((v*u).natAbs:Int):=by
  rw [Int.mul_comm v e,Int.mul_comm v u]
  exact part_l h
theorem dev_prod {x y u v:Int} (hu:Un x u) (hv:Un y v):81129638414606681695789005144064*((x*y-u*v).natAbs:Int)<=18014398509481985*((u*v).natAbs:Int):=by
  obtain ⟨e,he⟩:∃ e,x=u+e:=⟨x-u,by omega⟩
  obtain ⟨f,hf⟩:∃ f,y=v+f:=⟨y-v,by omega⟩
  have h1:9007199254740992*(e.natAbs:Int)<=(u.natAbs:Int):=by have:=hu.2; omega
  have h2:9007199254740992*(f.natAbs:Int)<=(v.natAbs:Int):=by have:=hv.2; omega
  have a1:=part_l (v:=v) h1
  have a2:=part_r (v:=u) h2
  have a3:=part_r (v:=e) h2
  have ee:x*y-u*v=u*f+e*v+e*f:=by
    rw [he,hf,Int.add_mul,Int.mul_add,Int.mul_add]
    omega
  rw [ee]
  generalize u*f=A at *
  generalize e*v=B at *
  generalize e*f=C at *
  generalize u*v=D at *
  omega
theorem k_sg {X Z D:Int} (hD:Un Z D) (h:((X-Z).natAbs:Int)<(Z.natAbs:Int)):(0<X ↔ 0<D)∧(X<0 ↔ D<0):=by
  have d:=hD.1
  omega
theorem k_lowM {T M:Int} (h:Un T M) (t:0<=T):9007199254740991*T<=9007199254740992*M:=by
  have:=h.1
  omega
theorem k_lowD {Z D:Int} (h:Un Z D):9007199254740991*(D.natAbs:Int)<=9007199254740992*(Z.natAbs:Int):=by
  have:=h.2
  omega
theorem kf_ch {a b c d X Y Z:Int} (hb:0<=b) (hc:0<=c) (h1:a*X<=b*Y) (h2:c*Y<=d*Z):(c*a)*X<=(b*d)*Z:=by
  have a1:=Int.mul_le_mul_of_nonneg_left h1 hc
  have a2:=Int.mul_le_mul_of_nonneg_left h2 hb
  rw [Int.mul_assoc,Int.mul_assoc]
  refine Int.le_trans a1 (Int.le_trans (Int.le_of_eq ?_) a2)
  rw [<- Int.mul_assoc,<- Int.mul_assoc,Int.mul_comm c b]
theorem kp_two {a b c d x X y Y:Int} (y0:0<=c*y) (X0:0<=b*X) (h1:a*x<=b*X) (h2:c*y<=d*Y):(a*c)*(x*y)<=(b*d)*(X*Y):=by
  have e1:(a*c)*(x*y)=(a*x)*(c*y):=by rw [Int.mul_assoc,Int.mul_assoc,Int.mul_left_comm c x y]
  have e2:(b*d)*(X*Y)=(b*X)*(d*Y):=by rw [Int.mul_assoc,Int.mul_assoc,Int.mul_left_comm d X Y]
  rw [e1,e2]
  exact Int.mul_le_mul h1 h2 y0 X0
theorem dv_core {F N k c j d K P α β γ δ ρ τ:Int} (F0:0<F) (N0:0<N) (P0:0<=P) (p1:(F*N)*F*α<=(k*d)*P) (p2:F*(F*N)*β<=(c*j)*P) (p3:(F*N)*(F*N)*γ<=(k*j)*P) (p4:F*F*δ<=(c*d)*P)
    (r:N*ρ<=δ) (t:τ<=α+β+γ+ρ) (h:N*(k*d+c*j+c*d)+k*j<=N*F*K):F*(N*τ)<=K*P:=by
  have NF:=Int.mul_pos N0 F0
  refine Int.le_of_mul_le_mul_left (a:=N*F) ?_ NF
  have s:=Int.mul_le_mul_of_nonneg_left t (Int.le_of_lt (Int.mul_pos NF (Int.mul_pos F0 N0)))
  have n:=Int.le_of_lt N0
  have q1:=Int.mul_le_mul_of_nonneg_left p1 n
  have q2:=Int.mul_le_mul_of_nonneg_left p2 n
  have q4:=Int.mul_le_mul_of_nonneg_left p4 n
  have q5:=Int.mul_le_mul_of_nonneg_left r (Int.le_of_lt (Int.mul_pos N0 (Int.mul_pos F0 F0)))
  have q6:=Int.mul_le_mul_of_nonneg_right h P0
  have e0:N*F*(F*(N*τ))=N*F*(F*N)*τ:=by grind
  have e1:N*F*(F*N)*(α+β+γ+ρ)=N*(F*N*F*α)+N*(F*(F*N)*β)+F*N*(F*N)*γ+N*(F*F)*(N*ρ):=by grind
  have e2:(N*(k*d+c*j+c*d)+k*j)*P=N*(k*d*P)+N*(c*j*P)+k*j*P+N*(c*d*P):=by grind
  have e3:N*F*(K*P)=N*F*K*P:=by grind
  have e4:N*(F*F)*δ=N*(F*F*δ):=by grind
  rw [e0,e3]
  rw [e1] at s
  rw [e2] at q6
  rw [e4] at q5
  omega
structure Dv (k c X x Q:Int):Prop where
  q:0<=Q
  d:1152921504606846976*(9007199254740992*((X-x).natAbs:Int))<=k*Q
  s:1152921504606846976*(x.natAbs:Int)<=c*Q
theorem Dv.neg {k c X x Q:Int} (h:Dv k c X x Q):Dv k c (-X) (-x) Q:=by
  obtain ⟨q,d,s⟩:=h
  refine ⟨q,?_,by rwa [Int.natAbs_neg]⟩
  rw [show -X - -x=-(X-x) by omega,Int.natAbs_neg]
  exact d
theorem Dv.up {k c k' c' X x Q:Int} (h:Dv k c X x Q) (hk:k<=k') (hc:c<=c'):Dv k' c' X x Q :=
  ⟨h.q,Int.le_trans h.d (Int.mul_le_mul_of_nonneg_right hk h.q),Int.le_trans h.s (Int.mul_le_mul_of_nonneg_right hc h.q)⟩
theorem dv_un {X x:Int} (u:Un X x):Dv 1152921504606846976 1152921504606846976 X x (x.natAbs:Int):=by
  refine ⟨Int.natCast_nonneg _,Int.mul_le_mul_of_nonneg_left ?_ (by decide),Int.le_refl _⟩
  have:=u.2
  have e:((X-x).natAbs:Int)=((x-X).natAbs:Int):=by omega
  rw [e]
  exact this
theorem dv_siz {F N C m P δ τ:Int} (F0:0<F) (N0:0<N) (P0:0<=P) (p:F*F*δ<=m*P) (r:N*τ<=(N+1)*δ) (h:(N+1)*m<=N*F*C) (N1:0<=N+1):F*τ<=C*P:=by
  refine Int.le_of_mul_le_mul_left (a:=N*F) ?_ (Int.mul_pos N0 F0)
  have q1:=Int.mul_le_mul_of_nonneg_left p N1
  have q2:=Int.mul_le_mul_of_nonneg_left r (Int.le_of_lt (Int.mul_pos F0 F0))
  have q3:=Int.mul_le_mul_of_nonneg_right h P0
  have e1:N*F*(F*τ)=F*F*(N*τ):=by grind
  have e2:F*F*((N+1)*δ)=(N+1)*(F*F*δ):=by grind
  have e3:N*F*(C*P)=N*F*C*P:=by grind
  have e4:(N+1)*(m*P)=(N+1)*m*P:=by grind
  rw [e1,e3]
  rw [e2] at q2
  rw [e4] at q1
  omega
theorem un_sz {S t:Int} (u:Un S t):9007199254740992*(t.natAbs:Int)<=(9007199254740992+1)*(S.natAbs:Int):=by
  have:=u.1
  omega
theorem un_df {X S t:Int} (u:Un S t):((X-t).natAbs:Int)<=((X-S).natAbs:Int)+((t-S).natAbs:Int)∧9007199254740992*((t-S).natAbs:Int)<=(S.natAbs:Int):=⟨by omega,u.1⟩
theorem dv_mul {k c j d K C X x Q Y y R t:Int} (hx:Dv k c X x Q) (hy:Dv j d Y y R) (u:Un (x*y) t)
    (h:9007199254740992*(k*d+c*j+c*d)+k*j<=9007199254740992*1152921504606846976*K) (h2:(9007199254740992+1)*(c*d)<=9007199254740992*1152921504606846976*C):Dv K C (X*Y) t (Q*R):=by
  obtain ⟨q0,d1,s1⟩:=hx
  obtain ⟨r0,d2,s2⟩:=hy
  have P0:=Int.mul_nonneg q0 r0
  have nn:∀ z:Int,0<=1152921504606846976*(z.natAbs:Int):=fun z=>by omega
  have nn':∀ z:Int,0<=1152921504606846976*(9007199254740992*(z.natAbs:Int)):=fun z=>by omega
  rw [<- Int.mul_assoc] at d1 d2
  have n2:0<=(1152921504606846976*9007199254740992)*((Y-y).natAbs:Int):=by omega
  have p1:=kp_two (nn y) (Int.le_trans (by omega) d1) d1 s2
  have p2:=kp_two n2 (Int.le_trans (nn x) s1) s1 d2
  have p3:=kp_two n2 (Int.le_trans (by omega) d1) d1 d2
  have p4:=kp_two (nn y) (Int.le_trans (nn x) s1) s1 s2
  rw [<- abs_mul] at p1 p2 p3 p4
  obtain ⟨t1,t2⟩:=un_df (X:=X*Y) u
  have e:X*Y-x*y=(X-x)*y+x*(Y-y)+(X-x)*(Y-y):=by grind
  have t3:((X*Y-x*y).natAbs:Int)<=(((X-x)*y).natAbs:Int)+((x*(Y-y)).natAbs:Int)+(((X-x)*(Y-y)).natAbs:Int):=by
    rw [e]
    generalize (X-x)*y=a
    generalize x*(Y-y)=b
    generalize (X-x)*(Y-y)=c
    omega
  refine ⟨P0,?_,?_⟩
  . exact dv_core (by decide) (by decide) P0 p1 p2 p3 p4 t2 (Int.le_trans t1 (Int.add_le_add_right t3 _)) h
  . exact dv_siz (by decide) (by decide) P0 p4 (un_sz u) h2 (by decide)
theorem dv_sum0 {k c X x Q Y y R:Int} (hx:Dv k c X x Q) (hy:Dv k c Y y R):Dv k c (X+Y) (x+y) (Q+R):=by
  obtain ⟨q0,d1,s1⟩:=hx
  obtain ⟨r0,d2,s2⟩:=hy
  refine ⟨by omega,?_,?_⟩
  . rw [Int.mul_add]
    have:((X+Y-(x+y)).natAbs:Int)<=((X-x).natAbs:Int)+((Y-y).natAbs:Int):=by omega
    generalize k*Q=a at *
    generalize k*R=b at *
    omega
  . rw [Int.mul_add]
    have:((x+y).natAbs:Int)<=(x.natAbs:Int)+(y.natAbs:Int):=by omega
    generalize c*Q=a at *
    generalize c*R=b at *
    omega
theorem dv_rnd {k c K C X x Q t:Int} (hx:Dv k c X x Q) (u:Un x t) (h:k+c<=K) (h2:(9007199254740992+1)*c<=9007199254740992*C):Dv K C X t Q:=by
  obtain ⟨q0,d1,s1⟩:=hx
  obtain ⟨t1,t2⟩:=un_df (X:=X) u
  have t3:=un_sz u
  have a1:=Int.mul_le_mul_of_nonneg_right h q0
  have a2:=Int.mul_le_mul_of_nonneg_right h2 q0
  rw [Int.add_mul] at a1
  rw [Int.mul_assoc,Int.mul_assoc] at a2
  refine ⟨q0,?_,?_⟩
  . generalize k*Q=a at *
    generalize c*Q=b at *
    generalize K*Q=e at *
    omega
  . generalize c*Q=b at *
    generalize C*Q=e at *
    omega
theorem dv_add {k c K C X x Q Y y R t:Int} (hx:Dv k c X x Q) (hy:Dv k c Y y R) (u:Un (x+y) t) (h:k+c<=K) (h2:(9007199254740992+1)*c<=9007199254740992*C):Dv K C (X+Y) t (Q+R):=dv_rnd (dv_sum0 hx hy) u h h2
theorem dv_sub {k c K C X x Q Y y R t:Int} (hx:Dv k c X x Q) (hy:Dv k c Y y R) (u:Un (x-y) t) (h:k+c<=K) (h2:(9007199254740992+1)*c<=9007199254740992*C):Dv K C (X-Y) t (Q+R):=by
  rw [Int.sub_eq_add_neg] at u ⊢
  exact dv_add hx hy.neg u h h2
theorem dv_prod0 {X Y u v L:Int} (hu:Un X u) (hv:Un Y v) (hL:Un (u*v) L):Dv 3458764513820541313 1152921504606846976 (X*Y) L (L.natAbs:Int):=by
  have d:=dev_prod hu hv
  have l2:9007199254740992*((u*v).natAbs:Int)<=9007199254740993*(L.natAbs:Int):=by
    have:=hL.2
    omega
  have d3:=kf_ch (by decide) (by decide) d l2
  have t1:((X*Y-L).natAbs:Int)<=((X*Y-u*v).natAbs:Int)+((L-u*v).natAbs:Int):=by omega
  have t2:=hL.2
  refine ⟨Int.natCast_nonneg _,?_,Int.le_refl _⟩
  have d4:10384593717069655257060992658440192*((X*Y-u*v).natAbs:Int)<=2305843009213694337*(L.natAbs:Int):=by
    have:=Int.mul_le_mul_of_nonneg_left d3 (show (0:Int)<=1152921504606846976 by decide)
    clear d d3 l2 t1 t2
    generalize ((X*Y-u*v).natAbs:Int)=α at *
    have l0:=Int.natCast_nonneg L.natAbs
    generalize (L.natAbs:Int)=l at *
    omega
  generalize ((X*Y-u*v).natAbs:Int)=α at *
  generalize ((L-u*v).natAbs:Int)=ρ at *
  generalize ((X*Y-L).natAbs:Int)=τ at *
  generalize (L.natAbs:Int)=l at *
  clear d d3 l2
  omega
structure Sz (g Q S:Int):Prop where
  q:0<=Q
  s:0<=S
  l:1152921504606846976*Q<=g*S
theorem un_nn {S t:Int} (u:Un S t) (s:0<=S):0<=t∧9007199254740992*S<=(9007199254740992+1)*t:=by
  have h1:=u.1
  have h2:=u.2
  omega
theorem sz_abs (x:Int):Sz 1152921504606846976 (x.natAbs:Int) (x.natAbs:Int):=⟨Int.natCast_nonneg _,Int.natCast_nonneg _,Int.le_refl _⟩
theorem sz_mul {g h G Q S R T t:Int} (hs:Sz g Q S) (hr:Sz h R T) (u:Un (S*T) t) (c:(9007199254740992+1)*(g*h)<=9007199254740992*1152921504606846976*G) (g0:0<=g*h):Sz G (Q*R) t:=by
  obtain ⟨q0,s0,l0⟩:=hs
  obtain ⟨q1,s1,l1⟩:=hr
  obtain ⟨t0,t1⟩:=un_nn u (Int.mul_nonneg s0 s1)
  refine ⟨Int.mul_nonneg q0 q1,t0,?_⟩
  have p:=kp_two (a:=1152921504606846976) (c:=1152921504606846976) (by omega) (Int.le_trans (by omega) l0) l0 l1
  refine Int.le_of_mul_le_mul_left (a:=9007199254740992*1152921504606846976) ?_ (by decide)
  have q1:=Int.mul_le_mul_of_nonneg_left p (show (0:Int)<=9007199254740992 by decide)
  have q2:=Int.mul_le_mul_of_nonneg_left t1 g0
  have q3:=Int.mul_le_mul_of_nonneg_right c t0
  have e1:g*h*((9007199254740992+1)*t)=(9007199254740992+1)*(g*h)*t:=by grind
  have e2:g*h*(9007199254740992*(S*T))=9007199254740992*(g*h*(S*T)):=by grind
  rw [e1,e2] at q2
  rw [Int.mul_assoc (9007199254740992*1152921504606846976) G t] at q3
  generalize g*h*(S*T)=a at *
  generalize (9007199254740992+1)*(g*h)*t=b at *
  generalize Q*R=e at *
  generalize G*t=f at *
  omega
theorem sz_add {g G Q S R T t:Int} (hs:Sz g Q S) (hr:Sz g R T) (u:Un (S+T) t) (c:(9007199254740992+1)*g<=9007199254740992*G) (g0:0<=g):Sz G (Q+R) t:=by
  obtain ⟨q0,s0,l0⟩:=hs
  obtain ⟨q1,s1,l1⟩:=hr
  obtain ⟨t0,t1⟩:=un_nn u (by omega)
  refine ⟨by omega,t0,?_⟩
  have q2:=Int.mul_le_mul_of_nonneg_left t1 g0
  have q3:=Int.mul_le_mul_of_nonneg_right c t0
  have e1:g*((9007199254740992+1)*t)=(9007199254740992+1)*g*t:=by grind
  have e2:g*(9007199254740992*(S+T))=9007199254740992*(g*S)+9007199254740992*(g*T):=by grind
  rw [e1,e2] at q2
  rw [Int.mul_assoc 9007199254740992 G t] at q3
  generalize g*S=a at *
  generalize g*T=b at *
  generalize (9007199254740992+1)*g*t=e at *
  generalize G*t=f at *
  omega
theorem dv_last {F N k g a b S Q Y T M E Z:Int} (F0:0<F) (N0:1<N) (k0:0<=k) (a0:0<a) (S0:0<=S) (Y0:0<=Y) (Q0:0<=Q) (hd:F*(N*Y)<=k*Q) (hs:F*Q<=g*S) (hT:b*S<=a*T) (m:(N-1)*T<=N*M) (h:M<E) (z:(N-1)*E<=N*Z) (c:a*(N*(k*g))<F*(F*((N-1)*((N-1)*b)))) (m0:0<=M):Y<Z:=by
  have N1:0<N-1:=by omega
  have Np:0<N:=by omega
  have a1:=Int.mul_le_mul_of_nonneg_left hd (Int.le_of_lt F0)
  have a2:=Int.mul_le_mul_of_nonneg_left hs k0
  have zp:0<Z:=by
    have:0<(N-1)*E:=Int.mul_pos N1 (by omega)
    apply Int.lt_of_not_ge
    intro h2
    have:=Int.mul_le_mul_of_nonneg_left h2 (Int.le_of_lt Np)
    omega
  rcases Int.lt_or_eq_of_le S0 with s | s
  . apply Int.lt_of_not_ge
    intro hz
    have b1:=Int.mul_le_mul_of_nonneg_left hT (Int.le_of_lt (Int.mul_pos N1 N1))
    have b2:=Int.mul_le_mul_of_nonneg_left m (Int.le_of_lt (Int.mul_pos N1 a0))
    have b3:=Int.mul_le_mul_of_nonneg_left (Int.le_of_lt h) (Int.le_of_lt (Int.mul_pos (Int.mul_pos N1 a0) Np))
    have b4:=Int.mul_le_mul_of_nonneg_left z (Int.le_of_lt (Int.mul_pos a0 Np))
    have b5:=Int.mul_le_mul_of_nonneg_left hz (Int.le_of_lt (Int.mul_pos (Int.mul_pos a0 Np) Np))
    have e1:(N-1)*(N-1)*(a*T)=(N-1)*a*((N-1)*T):=by grind
    have e2:(N-1)*a*(N*M)=(N-1)*a*N*M:=by grind
    have e3:(N-1)*a*N*E=a*N*((N-1)*E):=by grind
    have e4:a*N*(N*Z)=a*N*N*Z:=by grind
    have b6:(N-1)*(N-1)*(b*S)<=a*N*N*Y:=by omega
    have b7:=Int.mul_le_mul_of_nonneg_left b6 (Int.le_of_lt (Int.mul_pos F0 F0))
    have a3:=Int.mul_le_mul_of_nonneg_left (Int.le_trans a1 (by rw [show F*(k*Q)=k*(F*Q) by grind]; exact a2)) (Int.le_of_lt (Int.mul_pos a0 Np))
    have e5:F*F*(a*N*N*Y)=a*N*(F*(F*(N*Y))):=by grind
    have e6:F*F*((N-1)*(N-1)*(b*S))=F*(F*((N-1)*((N-1)*b)))*S:=by grind
    have e7:a*N*(k*(g*S))=a*(N*(k*g))*S:=by grind
    have c2:=Int.mul_lt_mul_of_pos_right c s
    omega
  . subst s
    have q:F*Q<=0:=by rw [Int.mul_zero] at hs; exact hs
    have q1:Q=0:=by
      rcases Int.lt_or_eq_of_le Q0 with p | p
      . have:=Int.mul_pos F0 p
        omega
      . exact p.symm
    subst q1
    rw [Int.mul_zero] at hd
    rcases Int.lt_or_eq_of_le Y0 with p | p
    . have:=Int.mul_pos F0 (Int.mul_pos Np p)
      omega
    . omega
theorem dv_sign {k c g a b X Z Q D S T M:Int} (hX:Dv k c X Z Q) (hD:Un Z D) (hS:Sz g Q S) (hT:b*S<=a*T) (uT:Un T M) (h:M<(D.natAbs:Int)) (t0:0<=T)
    (k0:0<=k) (a0:0<a) (cc:a*(9007199254740992*(k*g))<1152921504606846976*(1152921504606846976*((9007199254740992-1)*((9007199254740992-1)*b)))):(0<X ↔ 0<D)∧(X<0 ↔ D<0):=by
  refine k_sg hD ?_
  exact dv_last (F:=1152921504606846976) (N:=9007199254740992) (by decide) (by decide) k0 a0 hS.s (Int.natCast_nonneg _) hS.q hX.d hS.l hT (by have:=k_lowM uT t0; omega) h (by have:=k_lowD hD; omega) cc (un_nn uT t0).1
theorem q_coord {b:Int} (hb:rng b) (w:World) :
    Calls Tryd.prog 17 #[.int .i64 b] w fun e w'=>e=.returned (.bool (pok b))∧w'=w:=by
  have hb':=hb
  unfold rng at hb'
  have hm:bits .and .i64 (b/4503599627370496) 2047=fld b:=and_i64_mask (b/4503599627370496) 11 (by omega)
  go_enter Tryd.func17,Tryd.ntmps17
  go_wp2
  go_ret
  exact ⟨b_ret_bool (by unfold pok; by_cases h:fld b=2047 <;> simp [h]),rfl⟩
def q0 (b:Int):Int:=if b=-9223372036854775808 then 0 else b
structure Pts (w:World) (ao:Option Addr) (n cap:Nat) (px py:Nat->Int):Prop where
  le:n<=cap
  max:cap<=9223372036854775807
  spot:0<n->∃ b off,ao=some ⟨b,off,none⟩∧b<w.heap.size∧∀ i,i<n->w.cell? ⟨b,off+i*2,none⟩=some (.int .i64 (px i))∧w.cell? ⟨b,off+i*2+1,none⟩=some (.int .i64 (py i))
theorem Pts.keeps {w w':World} {ao:Option Addr} {n cap:Nat} {px py:Nat->Int} (h:Pts w ao n cap px py) (hb:Below w.heap.size w w'):Pts w' ao n cap px py :=
  ⟨h.le,h.max,fun hn=>by
    obtain ⟨b,off,rfl,hlt,hc⟩:=h.spot hn
    exact ⟨b,off,rfl,Nat.lt_of_lt_of_le hlt hb.size,fun i hi=>⟨(hb.cell (p:=⟨b,off+i*2,none⟩) hlt).trans (hc i hi).1,(hb.cell (p:=⟨b,off+i*2+1,none⟩) hlt).trans (hc i hi).2⟩⟩⟩
def allB (f:Nat->Bool) (n:Nat):Bool:=decide (∀ i,i<n->f i=true)
def l2 (a b:Int) (i:Nat):Int:=if i=0 then a else b
def l3 (a b c:Int) (i:Nat):Int:=if i=0 then a else if i=1 then b else c
structure Fx (a b:Nat) (x:Int):Prop where
  r:rng x
  p:pok x=true
  d:(2^a:Int) ∣ iV x
  b:((iV x).natAbs:Int)<=2^b
theorem Mz.fx {x:Int} (h:Mz x):Fx 872 1224 x:=⟨h.1,h.2.1,h.2.2.1,h.2.2.2⟩
theorem Fx.up {a b b':Nat} {x:Int} (h:Fx a b x) (c:b<=b'):Fx a b' x:=⟨h.r,h.p,h.d,p2_up h.b c⟩
theorem Fx.neg {a b:Nat} {x:Int} (h:Fx a b x):Fx a b (neg x)∧iV (neg x)=-iV x:=by
  obtain ⟨n1,n2,n3⟩:=neg_facts h.r h.p
  refine ⟨⟨n1,n2,?_,?_⟩,n3⟩
  . rw [n3]; exact Int.dvd_neg.2 h.d
  . rw [n3,Int.natAbs_neg]; exact h.b
theorem h_dbl {S x:Int} (h:Un S x):(x.natAbs:Int)<=2*(S.natAbs:Int):=by
  have:=h.1
  omega
theorem h_fin {a b m:Int} {k:Nat} (h1:a<=2^k) (hk:k+1<=2097) (hm:(2:Int)^2097<=m):2*a<=m:=by
  have e:=p2s k
  have f:(2:Int)^(k+1)<=2^2097:=p2le hk
  omega
theorem Fx.sum {a b:Nat} {x y:Int} (hx:Fx a b x) (hy:Fx a b y) (hb:b+1<=2097):Fx a (b+2) (fsum x y)∧Un (iV x+iV y) (iV (fsum x y)):=by
  obtain ⟨f1,f2⟩:=sum_fin hx.r hy.r hx.p hy.p (h_fin (b:=0) hx.b hb maxV_ge) (h_fin (b:=0) hy.b hb maxV_ge)
  have nr:=fsum_nr hx.r hy.r f2
  have u:=nr_Un nr
  refine ⟨⟨fsum_rng hx.r hy.r,f1,nr_dvd nr (Int.dvd_add hx.d hy.d),?_⟩,u⟩
  have h2:=h_dbl u
  have e1:=hx.b
  have e2:=hy.b
  rw [show b+2=b+1+1 by omega,p2s,p2s]
  omega
theorem h_mul {x y:Int} {b d:Nat} (h1:(x.natAbs:Int)<=2^b) (h2:(y.natAbs:Int)<=2^d):((x*y).natAbs:Int)<=2^(b+d):=by
  have:=abs_mul_le h1 h2
  rwa [<- Int.pow_add] at this
theorem Fx.prod {a b c d:Nat} {x y:Int} (hx:Fx a b x) (hy:Fx c d y) (h1:1074<=a+c) (h2:1074<=b+d) (h3:b+d-1074<=2097) :
    Fx (a+c-1074) (b+d-1074+1) (fprod x y)∧Un (iV x*iV y) (2^1074*iV (fprod x y))∧∃ T,2^1074*T=iV x*iV y∧Un T (iV (fprod x y)):=by
  have dd:(2^(a+c):Int) ∣ iV x*iV y:=by
    rw [Int.pow_add]
    exact Int.mul_dvd_mul hx.d hy.d
  obtain ⟨k,hk⟩:=dd
  have e0:(2:Int)^(a+c)=2^1074*2^(a+c-1074):=by rw [<- Int.pow_add,show 1074+(a+c-1074)=a+c by omega]
  have hT:2^1074*(2^(a+c-1074)*k)=iV x*iV y:=by rw [hk,e0,Int.mul_assoc]
  have b1:=h_mul hx.b hy.b
  rw [<- hT,natAbs_p2,show b+d=1074+(b+d-1074) by omega,Int.pow_add] at b1
  have b2:(((2^(a+c-1074)*k:Int)).natAbs:Int)<=2^(b+d-1074):=Int.le_of_mul_le_mul_left b1 (p2 1074)
  have s:=stp_prod hx.r hy.r hx.p hy.p hT
  have f:pok (fprod x y)=true:=s.fin (Int.le_trans b2 (Int.le_trans (p2le h3) maxV_ge))
  have nr:=s.nr f
  have u:=nr_Un nr
  refine ⟨⟨fprod_rng hx.r hy.r,f,nr_dvd nr ⟨k,rfl⟩,?_⟩,?_,_,hT,u⟩
  . have:=h_dbl u
    rw [p2s]
    omega
  . rw [<- hT]
    exact u.scale (Int.le_of_lt (p2 1074))
theorem rg_rg {x:Int} (h:rng x):rg (rg x)=rg x:=by unfold rng rg at *; split <;> (try split) <;> omega
theorem Fx.abs {a b:Nat} {x:Int} (h:Fx a b x):Fx a b (rg x)∧iV (rg x)=((iV x).natAbs:Int):=by
  obtain ⟨q1,q2⟩:=q_rg h.r
  have e:iV (rg x)=((iV x).natAbs:Int):=by
    rw [iV_abs,iV,decide_eq_false (by omega),rg_rg h.r]
    rfl
  refine ⟨⟨q1,?_,?_,?_⟩,e⟩
  . rw [pok_rg' q1,rg_rg h.r,<- pok_rg' h.r]; exact h.p
  . rw [e]; exact Int.dvd_natAbs.2 h.d
  . rw [e,Int.natAbs_natCast]; exact h.b
theorem Mz.diff {p q:Int} (hp:Mz p) (hq:Mz q):Fx 872 1226 (fsum p (neg q))∧Un (iV p-iV q) (iV (fsum p (neg q))):=by
  obtain ⟨n,ne⟩:=hq.fx.neg
  obtain ⟨s,su⟩:=hp.fx.sum n (by decide)
  rw [ne] at su
  exact ⟨s,su⟩
def oA:Int:=4375247037990436868
def oB:Int:=4372995238176751619
theorem iV_posO {p m:Int} {n:Nat} (hr:rng p) (hp:pok p=true) (h0:0<=p) (hm:pmag p=m*4) (he:pexp p+1074=n) (m0:0<=m):iV p=m*2^(n+2):=by
  have e:=iV_form hr hp
  rw [hm,he,Int.toNat_natCast] at e
  have s:0<=iV p:=by
    rw [iV,decide_eq_false (by omega)]
    exact Int.natCast_nonneg _
  rw [show n+2=n+1+1 by omega,p2s,p2s]
  have q:=p2 n
  have:m*(2*(2*2^n))=m*4*2^n:=by rw [<- Int.mul_assoc 2 2,<- Int.mul_assoc,show (2:Int)*2=4 from rfl]
  omega
theorem sc_abs {S:Int} {q:Int} (hq:0<=q):((q*S).natAbs:Int)=q*(S.natAbs:Int):=by
  rw [abs_mul]
  congr 1
  omega
theorem sc_sgn {q x:Int} (hq:0<q):(0<q*x ↔ 0<x)∧(q*x<0 ↔ x<0):=by
  rcases Int.lt_trichotomy x 0 with h | h | h
  . have:q*x<0:=Int.mul_neg_of_pos_of_neg hq h
    omega
  . rw [h,Int.mul_zero]
    exact ⟨Iff.rfl,Iff.rfl⟩
  . have:0<q*x:=Int.mul_pos hq h
    omega
end Go.Proofs.YtobofhgpidbpmaaDoor
namespace Go.Proofs.YtobofhgpidbpmaaDoor
open Go Go.RowKit Go.Proofs.YtobofhgpidbpmaaDoor.M Ieee
def RdP (way V p:Int):Prop:=∃ (A:Int) (r0:Nat) (left:Int),V=sg (decide (V<0)) A∧Rung A r0 left∧p=patS (decide (V<0)) (rTo way (decide (V<0)) r0 left)
theorem RdP.unique {way V p q:Int} (h:RdP way V p) (k:RdP way V q):p=q:=by
  obtain ⟨A,r0,l,h1,h2,h3⟩:=h
  obtain ⟨B,s0,m,k1,k2,k3⟩:=k
  have hAB:=sg_inj (h1.symm.trans k1)
  subst hAB
  obtain ⟨e1,e2⟩:=h2.unique k2
  subst e1 e2
  rw [h3,k3]
end Go.Proofs.YtobofhgpidbpmaaDoor
namespace Go.Proofs.YtobofhgpidbpmaaDoor.M
open Go Ieee
def nn (p:Int):Prop:=rng p∧¬ cls p=4
end Go.Proofs.YtobofhgpidbpmaaDoor.M
namespace Go.Proofs.YtobofhgpidbpmaaDoor
open Go Go.RowKit Go.Proofs.YtobofhgpidbpmaaDoor.M
theorem q_cell {w w':World} {p:Addr} {v:Value} (h:w.cell? p=some v) (hb:Below w.heap.size w w'):w'.cell? p=some v :=
  (hb.cell (World.block_lt_of_cell? w _ h)).trans h
theorem Q4.keeps {a b:Nat} {x0 x1 x2 x3:Value} {W W':World} (h:W.cell? ⟨a,0,none⟩=some x0∧W.cell? ⟨a,1,none⟩=some x1∧W.cell? ⟨b,0,none⟩=some x2∧W.cell? ⟨b,1,none⟩=some x3) (hb:Below W.heap.size W W') :
    W'.cell? ⟨a,0,none⟩=some x0∧W'.cell? ⟨a,1,none⟩=some x1∧W'.cell? ⟨b,0,none⟩=some x2∧W'.cell? ⟨b,1,none⟩=some x3 :=
  ⟨q_cell h.1 hb,q_cell h.2.1 hb,q_cell h.2.2.1 hb,q_cell h.2.2.2 hb⟩
theorem iV_fl (a:Int):Fl (iV a):=by
  unfold iV
  cases decide (a<0)
  . exact fl_V _
  . exact (fl_V _).neg
theorem run_sumN {P:Program} (t:TypeId) {p q:Int} {x y:Nat} (hx:FW p x) (hy:FW q y) (h:cls (fsum p q)≠4) (w:World) :
    (binOp .add t (.float .f64 x) (.float .f64 y)).run P w=.ok (.float .f64 (wd (fsum p q))) w:=by
  obtain ⟨z,w',hr,hz⟩:=run_farith (P:=P) .add (.inl rfl) t x y w
  have hf:floatBits .add .f64 x y=Ieee.double.add x y:=rfl
  rw [hf] at hz
  rcases add_FW hx hy with ⟨z',e1,e2⟩ | ⟨e1,e2⟩
  . rcases hz with ⟨h1,h2⟩ | ⟨h1,_⟩
    . rw [e1] at h1; cases h1
      rw [hr,h2,(e2.of h).2.1]
    . rw [e1] at h1; cases h1
  . exact absurd (by rw [e2]; exact nan_canon) h
theorem run_diffN {P:Program} (t:TypeId) {p q:Int} {x y:Nat} (hx:FW p x) (hy:FW q y) (h:cls (fsum p (neg q))≠4) (w:World) :
    (binOp .sub t (.float .f64 x) (.float .f64 y)).run P w=.ok (.float .f64 (wd (fsum p (neg q)))) w:=by
  obtain ⟨z,w',hr,hz⟩:=run_farith (P:=P) .sub (.inr (.inl rfl)) t x y w
  have hf:floatBits .sub .f64 x y=Ieee.double.sub x y:=rfl
  rw [hf] at hz
  rcases sub_FW hx hy with ⟨z',e1,e2⟩ | ⟨e1,e2⟩
  . rcases hz with ⟨h1,h2⟩ | ⟨h1,_⟩
    . rw [e1] at h1; cases h1
      rw [hr,h2,(e2.of h).2.1]
    . rw [e1] at h1; cases h1
  . exact absurd (by rw [e2]; exact nan_canon) h
theorem V_zero_iff {r:Nat}:(V Ieee.double r:Int)=0 ↔ r=0:=by
  constructor
  . intro h
    by_cases h0:r=0
    . exact h0
    . have:=V_lt Ieee.double (show 0<r by omega)
      rw [V_zero] at this
      omega
  . rintro rfl
    rw [V_zero]
    rfl
theorem iV_key {p:Int} (hp:rng p):(iV p<0 ↔ key p<0)∧(0<iV p ↔ 0<key p):=by
  have hz:=@V_zero_iff (rg p).toNat
  have hr:=q_rg hp
  unfold rng at hp
  have hv:(0:Int)<=(V Ieee.double (rg p).toNat:Int):=by omega
  by_cases h:p<0
  . have e1:iV p=-(V Ieee.double (rg p).toNat:Int):=by unfold iV sg; simp [h]
    have e2:key p=-(rg p):=by unfold key rg; rw [if_pos h,if_pos h]
    rw [e1,e2]
    constructor <;> constructor <;> intro g <;> omega
  . have e1:iV p=(V Ieee.double (rg p).toNat:Int):=by unfold iV sg; simp [h]
    have e2:key p=rg p:=by unfold key rg; rw [if_neg h,if_neg h]
    rw [e1,e2]
    constructor <;> constructor <;> intro g <;> omega
theorem iV_mono {p q:Int} (hp:rng p) (hq:rng q) (h:key p<key q):iV p<iV q:=by
  have rp:=q_rg hp
  have rq:=q_rg hq
  have ep:iV p=if p<0 then -(V Ieee.double (rg p).toNat:Int) else (V Ieee.double (rg p).toNat:Int):=by unfold iV sg; by_cases g:p<0 <;> simp [g]
  have eq':iV q=if q<0 then -(V Ieee.double (rg q).toNat:Int) else (V Ieee.double (rg q).toNat:Int):=by unfold iV sg; by_cases g:q<0 <;> simp [g]
  have kp:key p=if p<0 then -(rg p) else rg p:=by unfold key rg; by_cases g:p<0 <;> simp [g]
  have kq:key q=if q<0 then -(rg q) else rg q:=by unfold key rg; by_cases g:q<0 <;> simp [g]
  have zp:=@V_zero_iff (rg p).toNat
  have zq:=@V_zero_iff (rg q).toNat
  have m1:rg p<rg q->(V Ieee.double (rg p).toNat:Int)<V Ieee.double (rg q).toNat:=fun g=>by
    have:=V_lt Ieee.double (show (rg p).toNat<(rg q).toNat by omega)
    omega
  have m2:rg q<rg p->(V Ieee.double (rg q).toNat:Int)<V Ieee.double (rg p).toNat:=fun g=>by
    have:=V_lt Ieee.double (show (rg q).toNat<(rg p).toNat by omega)
    omega
  rw [kp,kq] at h
  rw [ep,eq']
  have hA0:(0:Int)<=(V Ieee.double (rg p).toNat:Int):=by omega
  have hB0:(0:Int)<=(V Ieee.double (rg q).toNat:Int):=by omega
  clear ep eq' kp kq
  generalize (V Ieee.double (rg p).toNat:Int)=A at *
  generalize (V Ieee.double (rg q).toNat:Int)=B at *
  by_cases a:p<0 <;> by_cases b:q<0 <;> simp only [a,b,if_true,if_false] at h ⊢ <;> omega
end Go.Proofs.YtobofhgpidbpmaaDoor
namespace Go.Proofs.YtobofhgpidbpmaaDoor
open Go Go.RowKit Go.Proofs.YtobofhgpidbpmaaDoor.M Ieee
end Go.Proofs.YtobofhgpidbpmaaDoor
